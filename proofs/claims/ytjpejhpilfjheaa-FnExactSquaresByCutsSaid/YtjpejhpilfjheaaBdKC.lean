/-
  The given program's first kind and first cut.
  Conditions: a board, and pieces.
-/
import Derived.Test.YtjpejhpilfjheaaBdW
import Derived.Test.YtjpejhpilfjheaaBdE
import Derived.Test.YtjpejhpilfjheaaBdP
namespace Go.Proofs.Ytjpejhpilfjheaa
set_option linter.unusedVariables false
open Go.RowKit

theorem kind_at {ps : List (Int × Int × Int)} {tu : Bool} {a b k : Nat} {v : Int} {p : Int × Int × Int} (h : ps[k]? = some p) (hp : (isP a b p tu && p.2.2 == v) = true) (hn : ∀ j p, j < k → ps[j]? = some p → (isP a b p tu && p.2.2 == v) = false) : kindI ps tu a b v = (k : Int) := by
  obtain ⟨hk, e⟩ := List.getElem?_eq_some_iff.1 h
  have h1 : kindK ps tu a b v = some k := by
    rw [kindK, List.findIdx?_eq_some_iff_getElem]
    refine ⟨hk, by rw [e]; exact hp, fun j hj => ?_⟩
    rw [hn j _ hj (List.getElem?_eq_getElem (by omega))]
    simp
  rw [kindI, h1]
theorem kind_no {ps : List (Int × Int × Int)} {tu : Bool} {a b : Nat} {v : Int} (hn : ∀ (j : Nat) p, ps[j]? = some p → (isP a b p tu && p.2.2 == v) = false) : kindI ps tu a b v = -1 := by
  have h1 : kindK ps tu a b v = none := by
    rw [kindK, List.findIdx?_eq_none_iff]
    intro p hp
    obtain ⟨j, hj⟩ := List.getElem?_of_mem hp
    exact hn j p hj
  rw [kindI, h1]
theorem kind_some {ps : List (Int × Int × Int)} {tu : Bool} {a b : Nat} {v : Int} : (0 ≤ kindI ps tu a b v ↔ (kindK ps tu a b v).isSome = true) ∧ -1 ≤ kindI ps tu a b v := by
  rw [kindI]
  cases kindK ps tu a b v <;> simp <;> omega

set_option maxRecDepth 100000 in
set_option maxHeartbeats 1000000 in
theorem bdKind_any (a b : Nat) (v : Int) (C0 : Option Addr) (np cp0 : Nat) (ps : List (Int × Int × Int)) (lo hi : Nat) (tu : Bool) (w : World) (hn : ps.length = np) (hlen : np ≤ 1048576) (hs : Seg w lo hi C0 (flat3 ps)) (hB : hi ≤ w.heap.size) (hnp : np ≤ 4) (kk : Int) (hkk : kindI ps tu a b v = kk) :
    Calls Try.prog 73 #[.int .i64 (a : Int), .int .i64 (b : Int), .int .i64 v, .slice C0 np cp0, .bool tu] w fun e w' => e = .returned (.int .i64 kk) ∧ Below w.heap.size w w' := by
  have HN := Lib.hid hn
  have HS := Lib.hid hs
  have HKK := Lib.hid hkk
  clear hn hs hkk
  go_enter Try.func73, Try.ntmps73
  go_wp2
  go_loopw [11, 12, 15] (fun _ _ i wr => ∃ k : Nat, k ≤ np ∧ i = .int .i64 k ∧ Below w.heap.size w wr ∧ ∀ j p, j < k → ps[j]? = some p → (isP a b p tu && p.2.2 == v) = false) (fun _ _ i _ => np - (intOf i).toNat)
  case atStart => exact ⟨0, Nat.zero_le _, rfl, Below.refl _ _, fun j p hj => by omega⟩
  case round =>
    obtain ⟨k, hk, rfl, hb, hno⟩ := hrel
    have HB := Lib.hid hb
    have HNO := Lib.hid hno
    have hsz := hb.size
    clear hno
    by_cases hlt : k < np
    · obtain ⟨b3, o3, x, y, z, rfl, _, _, hx, p0, p1, p2⟩ := (HS.out.below hb hB).tri (k := k) (by rw [HN.out]; exact hlt)
      have HX := Lib.hid hx
      clear hx hb
      cases hit : isP a b (x, y, z) tu
      · go_wp2_with fail
        refine (bdIs_any a b x y z tu _ false hit).mono ?_
        rintro e w' ⟨rfl, hb3⟩
        have HB3 := Lib.hid ((HB.out.alloc hsz (.cells #[.int .i64 x, .int .i64 y, .int .i64 z] 26)).trans (hb3.mono (by simp; omega)))
        clear hb3
        go_wp2
        go_roundw
        case rel =>
          refine ⟨k + 1, by omega, by go_num, HB3.out, fun j p hj hp => ?_⟩
          by_cases e : j = k
          · subst e; rw [HX.out] at hp; injection hp with hp; subst hp; rw [hit]; rfl
          · exact HNO.out j p (by omega) hp
        case measure => simp [intOf]; omega
      · obtain ⟨r, hr⟩ : ∃ r, (z == v) = r := ⟨_, rfl⟩
        have HR := Lib.hid hr
        cases r
        · go_wp2_with fail
          refine (bdIs_any a b x y z tu _ true hit).mono ?_
          rintro e w' ⟨rfl, hb3⟩
          have HB3 := Lib.hid ((HB.out.alloc hsz (.cells #[.int .i64 x, .int .i64 y, .int .i64 z] 26)).trans (hb3.mono (by simp; omega)))
          have hp3 := (hb3.block wr.heap.size (by simp)).trans (new_at wr (.cells #[.int .i64 x, .int .i64 y, .int .i64 z] 26) rfl)
          have d2 := cell_of hp3 2
          clear hb3 hp3
          go_wp2
          go_roundw
          case rel =>
            refine ⟨k + 1, by omega, by go_num, HB3.out, fun j p hj hp => ?_⟩
            by_cases e : j = k
            · subst e; rw [HX.out] at hp; injection hp with hp; subst hp; rw [hit]; exact HR.out
            · exact HNO.out j p (by omega) hp
          case measure => simp [intOf]; omega
        · go_wp2_with fail
          refine (bdIs_any a b x y z tu _ true hit).mono ?_
          rintro e w' ⟨rfl, hb3⟩
          have HB3 := Lib.hid ((HB.out.alloc hsz (.cells #[.int .i64 x, .int .i64 y, .int .i64 z] 26)).trans (hb3.mono (by simp; omega)))
          have hp3 := (hb3.block wr.heap.size (by simp)).trans (new_at wr (.cells #[.int .i64 x, .int .i64 y, .int .i64 z] 26) rfl)
          have d2 := cell_of hp3 2
          have HRES := Lib.hid (show (k : Int) = kk by rw [← HKK.out]; exact (kind_at HX.out (by rw [hit]; exact HR.out) HNO.out).symm)
          clear hb3 hp3
          go_wp2
          go_ret
          exact ⟨by rw [HRES.out]; rfl, HB3.out⟩
    · obtain rfl : k = np := by omega
      have HRES := Lib.hid (show (-1 : Int) = kk by rw [← HKK.out]; exact (kind_no (fun j p hp => HNO.out j p (by rw [← HN.out]; exact (List.getElem?_eq_some_iff.1 hp).1) hp)).symm)
      go_wp2
      go_ret
      exact ⟨by rw [HRES.out]; rfl, HB.out⟩

/-- The first cut, as it is told: whether it is upright, its first part, and whether there is one. -/
def cutR (o : Option Cut) (a : Nat) : Bool × Int × Bool := match o with
  | none => (false, 0, false)
  | some c => if c.1.1 < a then (true, (c.1.1 : Int), true) else (false, (c.1.2 : Int), true)
def RetBIB (r : Bool × Int × Bool) (w : World) (e : Ending) (w' : World) : Prop := e = .returned (.tuple #[.bool r.1, .int .i64 r.2.1, .bool r.2.2]) ∧ Below w.heap.size w w'
theorem find_app {α : Type} {P : α → Bool} {xs ys : List α} {x : α} (h : ∀ c ∈ xs, P c = false) (hx : P x = true) : (xs ++ [x] ++ ys).find? P = some x := by
  rw [List.append_assoc, List.find?_append, List.find?_eq_none.2 (fun c hc => by rw [h c hc]; simp)]
  simp [hx]
theorem find_none {α : Type} {P : α → Bool} {xs : List α} (h : ∀ c ∈ xs, P c = false) : xs.find? P = none := List.find?_eq_none.2 (fun c hc => by rw [h c hc]; simp)
theorem halfL_parts2 (a b : Nat) : halfL a b = upL a b (a / 2) ++ lvL a b (b / 2) := rfl
theorem upL_split {a b k n : Nat} (h : k < n) : ∃ r, upL a b n = upL a b k ++ [((k + 1, b), (a - (k + 1), b))] ++ r := by
  obtain ⟨m, rfl⟩ : ∃ m, n = (k + 1) + m := ⟨n - (k + 1), by omega⟩
  exact ⟨_, by rw [← upL_succ, upL, upL, List.range_add, List.map_append]⟩
theorem lvL_split {a b k n : Nat} (h : k < n) : ∃ r, lvL a b n = lvL a b k ++ [((a, k + 1), (a, b - (k + 1)))] ++ r := by
  obtain ⟨m, rfl⟩ : ∃ m, n = (k + 1) + m := ⟨n - (k + 1), by omega⟩
  exact ⟨_, by rw [← lvL_succ, lvL, lvL, List.range_add, List.map_append]⟩

set_option maxRecDepth 100000 in
set_option maxHeartbeats 4000000 in
theorem bdCut_any (A H a b F : Nat) (C0 : Option Addr) (np cp0 : Nat) (ps : List (Int × Int × Int)) (lo hi : Nat) (tu : Bool) (w : World) (hn : ps.length = np) (hlen : np ≤ 1048576) (hs : Seg w lo hi C0 (flat3 ps)) (hB : hi ≤ w.heap.size) (hg : goodPc ps = true) (hA : A ≤ 24) (hH : H ≤ 24) (a1 : 1 ≤ a) (aA : a ≤ A) (b1 : 1 ≤ b) (bH : b ≤ H) (lo2 : Nat) (ht : TabS w lo2 F A H (valB ps tu) A H) (r : Bool × Int × Bool) (hr : cutR (fcP ps tu a b) a = r) :
    Calls Try.prog 53 #[.slice (some ⟨F, 0, none⟩) (A + 1) (A + 1), .int .i64 (a : Int), .int .i64 (b : Int), .slice C0 np cp0, .bool tu] w (RetBIB r w) := by
  have hn4 := (goodPc_at hg).2.1
  have hi0 : (a : Int) < (A : Int) + 1 := by omega
  have hi1 : (b : Int) < (H : Int) + 1 := by omega
  obtain ⟨v, hv⟩ : ∃ v, valB ps tu a b = v := ⟨_, rfl⟩
  have hvb := valB_bd4 (goodPc_vals hg) tu a b a1 (by omega) b1 (by omega)
  rw [hv] at hvb
  obtain ⟨g, e1, e2⟩ := ht.read (a := a) (b := b) a1 aA b1 bH (by omega)
  rw [hv] at e2
  have HV := Lib.hid hv
  have HG := Lib.hid hg
  have HT := Lib.hid ht
  have HR := Lib.hid hr
  have HVS := Lib.hid (goodPc_vals hg)
  have hk4 : np ≤ 4 := by rw [← hn]; exact hn4
  have HK := Lib.hid (fun W (hb : Below w.heap.size w W) => bdKind_any a b v C0 np cp0 ps lo hi tu W hn hlen (hs.below hb hB) (by have := hb.size; omega) hk4 _ rfl)
  clear ht hr hg hv hn hs
  by_cases hv0 : v = 0
  · subst hv0
    obtain rfl : (false, 0, false) = r := by rw [← HR.out, fcP, HV.out, if_pos (.inl rfl)]; rfl
    go_enter Try.func53, Try.ntmps53
    go_wp2
    go_ret3
    exact ⟨rfl, Below.refl _ _⟩
  · have hvd : (v == 0) = false := by rw [beq_eq_false_iff_ne]; exact hv0
    obtain ⟨kk, hkk⟩ : ∃ kk, kindI ps tu a b v = kk := ⟨_, rfl⟩
    have hks := (kind_some (ps := ps) (tu := tu) (a := a) (b := b) (v := v)).1
    rw [hkk] at hks
    have HKK := Lib.hid hkk
    have HKS := Lib.hid hks
    clear hkk hks
    by_cases hpos : 0 ≤ kk
    · have hpd : decide (0 ≤ kk) = true := decide_eq_true hpos
      obtain rfl : (false, 0, false) = r := by rw [← HR.out, fcP, HV.out, if_pos (.inr (HKS.out.1 hpos))]; rfl
      go_enter Try.func53, Try.ntmps53
      go_wp2_with fail
      refine (HK.out _ (Below.refl _ _)).mono ?_
      rw [HKK.out]
      rintro e w1 ⟨rfl, hb1⟩
      go_wp2
      go_ret3
      exact ⟨rfl, hb1⟩
    · have hpd : decide (0 ≤ kk) = false := decide_eq_false hpos
      have HFC := Lib.hid (show fcP ps tu a b = (halfL a b).find? (fun c => sumT (valB ps tu) c == v) by
        rw [fcut_half, fcP, HV.out, if_neg (fun h => by rcases h with h | h; exact hv0 h; exact hpos (HKS.out.2 h))])
      go_enter Try.func53, Try.ntmps53
      go_wp2_with fail
      refine (HK.out _ (Below.refl _ _)).mono ?_
      rw [HKK.out]
      rintro e w1 ⟨rfl, hb1⟩
      have HB1 := Lib.hid hb1
      have HT1 := Lib.hid (HT.out.below hb1)
      have hE1 := (hb1.cell (cell_lt e1)).trans e1
      have hE2 := (hb1.cell (cell_lt e2)).trans e2
      have HE := Lib.hid (And.intro hE1 hE2)
      clear hb1 e1 e2 hE1 hE2
      go_wp2
      have HSu := Lib.hid (Below.refl w1.heap.size w1)
      go_loopw [13] (fun i wk => ∃ k : Nat, 1 ≤ k ∧ 2 * (k - 1) ≤ a ∧ i = .int .i64 (k : Int) ∧ Below w1.heap.size w1 wk ∧ ∀ c ∈ upL a b (k - 1), (sumT (valB ps tu) c == v) = false) (fun i _ => 25 - (intOf i).toNat)
      case atStart => exact ⟨1, by omega, by omega, rfl, HSu.out, fun c hc => by simp [upL] at hc⟩
      case round =>
        obtain ⟨k, hk1, hk2, rfl, hbk, hno⟩ := hrel
        have HBK := Lib.hid hbk
        have HNO := Lib.hid hno
        have HTK := Lib.hid (HT1.out.below hbk)
        have e5 := (hbk.cell (cell_lt HE.out.1)).trans HE.out.1
        have e6 := (hbk.cell (cell_lt HE.out.2)).trans HE.out.2
        have HE56 := Lib.hid (And.intro e5 e6)
        clear hbk hno e5 e6
        have hk24 : k ≤ 25 := by omega
        have hw2 : IntKind.i64.wrap (2 * (k : Int)) = 2 * (k : Int) := by rw [IntKind.wrap_i64]; omega
        by_cases hlt : 2 * k ≤ a
        · have hlt' : (2 * (k : Int)) ≤ (a : Int) := by omega
          have hdt : decide ((2 * (k : Int)) ≤ (a : Int)) = true := decide_eq_true hlt'
          obtain ⟨d, hd⟩ : ∃ d, a - k = d := ⟨_, rfl⟩
          have hsub : (a : Int) - (k : Int) = (d : Int) := by omega
          have hwd : IntKind.i64.wrap (d : Int) = (d : Int) := by rw [IntKind.wrap_i64]; omega
          obtain ⟨g1, e1, e2⟩ := HTK.out.read (a := k) (b := b) (by omega) (by omega) (by omega) (by omega) (by omega)
          obtain ⟨g2, e3, e4⟩ := HTK.out.read (a := d) (b := b) (by omega) (by omega) (by omega) (by omega) (by omega)
          have e5 := HE56.out.1
          have e6 := HE56.out.2
          have q1 := valB_bd4 HVS.out tu k b (by omega) (by omega) (by omega) (by omega)
          have q2 := valB_bd4 HVS.out tu d b (by omega) (by omega) (by omega) (by omega)
          obtain ⟨v1, hv1⟩ : ∃ v1, valB ps tu k b = v1 := ⟨_, rfl⟩
          obtain ⟨v2, hv2⟩ : ∃ v2, valB ps tu d b = v2 := ⟨_, rfl⟩
          rw [hv1] at e2 q1
          rw [hv2] at e4 q2
          have hwv : IntKind.i64.wrap (v1 + v2) = v1 + v2 := by rw [IntKind.wrap_i64]; omega
          obtain ⟨tt, htt⟩ : ∃ tt, (v1 + v2 == v) = tt := ⟨_, rfl⟩
          have HSUM := Lib.hid (show (sumT (valB ps tu) ((k, b), (d, b)) == v) = tt by rw [← htt]; simp only [sumT, hv1, hv2])
          clear hv1 hv2
          have hj0 : (k : Int) < (A : Int) + 1 := by omega
          have hj1 : (d : Int) < (A : Int) + 1 := by omega
          cases tt
          · go_wp2_with fail
            refine wp_region_held_drew (S := (fun wq => wq.cell? ⟨F, a, none⟩ = some (.slice (some ⟨g, 0, none⟩) (H + 1) (H + 1)) ∧ wq.cell? ⟨g, b, none⟩ = some (.int .i64 v) ∧ wq.cell? ⟨F, k, none⟩ = some (.slice (some ⟨g1, 0, none⟩) (H + 1) (H + 1)) ∧ wq.cell? ⟨g1, b, none⟩ = some (.int .i64 v1) ∧ wq.cell? ⟨F, d, none⟩ = some (.slice (some ⟨g2, 0, none⟩) (H + 1) (H + 1)) ∧ wq.cell? ⟨g2, b, none⟩ = some (.int .i64 v2))) (by kernel_rfl) ⟨e5, e6, e1, e2, e3, e4⟩ (fun hH0 => ?_)
            refine wpAnyH_take (i := 0) (v := ?_) (ops_at rfl) (by kernel_rfl) (by kernel_rfl) (by kernel_rfl) (fun _ _ _ h => h) (Or.inl ⟨by rfl, ?yuf0⟩) (by assumption) ?nuf0
            case yuf0 => (intro wS hSw; (try dsimp only at hSw); go_simp; try rfl)
            try simp only [Act.put, List.setIfInBounds_toArray, List.set_cons_zero, List.set_cons_succ]
            refine wpAnyH_take (i := 1) (v := ?_) (ops_at rfl) (by kernel_rfl) (by kernel_rfl) (by kernel_rfl) (fun _ _ _ h => h) (Or.inl ⟨by rfl, ?yuf1⟩) (by assumption) ?nuf1
            case yuf1 => (intro wS hSw; (try dsimp only at hSw); go_simp; try rfl)
            try simp only [Act.put, List.setIfInBounds_toArray, List.set_cons_zero, List.set_cons_succ]
            refine wpAnyH_take (i := 2) (v := ?_) (ops_at rfl) (by kernel_rfl) (by kernel_rfl) (by kernel_rfl) (fun _ _ _ h => h) (Or.inl ⟨by rfl, ?yuf2⟩) (by assumption) ?nuf2
            case yuf2 => (intro wS hSw; (try dsimp only at hSw); go_simp; try rfl)
            try simp only [Act.put, List.setIfInBounds_toArray, List.set_cons_zero, List.set_cons_succ]
            refine wpAnyH_take (i := 3) (v := ?_) (ops_at rfl) (by kernel_rfl) (by kernel_rfl) (by kernel_rfl) (fun _ _ _ h => h) (Or.inl ⟨by rfl, ?yuf3⟩) (by assumption) ?nuf3
            case yuf3 => (intro wS hSw; (try dsimp only at hSw); go_simp; try rfl)
            try simp only [Act.put, List.setIfInBounds_toArray, List.set_cons_zero, List.set_cons_succ]
            refine wpAnyH_take (i := 4) (v := ?_) (ops_at rfl) (by kernel_rfl) (by kernel_rfl) (by kernel_rfl) (fun _ _ _ h => h) (Or.inl ⟨by rfl, ?yuf4⟩) (by assumption) ?nuf4
            case yuf4 => (intro wS hSw; (try dsimp only at hSw); go_simp; try rfl)
            try simp only [Act.put, List.setIfInBounds_toArray, List.set_cons_zero, List.set_cons_succ]
            refine wpAnyH_take (i := 5) (v := ?_) (ops_at rfl) (by kernel_rfl) (by kernel_rfl) (by kernel_rfl) (fun _ _ _ h => h) (Or.inl ⟨by rfl, ?yuf5⟩) (by assumption) ?nuf5
            case yuf5 => (intro wS hSw; (try dsimp only at hSw); go_simp; try rfl)
            try simp only [Act.put, List.setIfInBounds_toArray, List.set_cons_zero, List.set_cons_succ]
            refine wpAnyH_take (i := 6) (v := ?_) (ops_at rfl) (by kernel_rfl) (by kernel_rfl) (by kernel_rfl) (fun _ _ _ h => h) (Or.inl ⟨by rfl, ?yuf6⟩) (by assumption) ?nuf6
            case yuf6 => (intro wS hSw; (try dsimp only at hSw); go_simp; try rfl)
            try simp only [Act.put, List.setIfInBounds_toArray, List.set_cons_zero, List.set_cons_succ]
            refine wpAnyH_take (i := 7) (v := ?_) (ops_at rfl) (by kernel_rfl) (by kernel_rfl) (by kernel_rfl) (fun _ _ _ h => h) (Or.inl ⟨by rfl, ?yuf7⟩) (by assumption) ?nuf7
            case yuf7 => (intro wS hSw; (try dsimp only at hSw); go_simp; try rfl)
            try simp only [Act.put, List.setIfInBounds_toArray, List.set_cons_zero, List.set_cons_succ]
            refine wpAnyH_take (i := 8) (v := ?_) (ops_at rfl) (by kernel_rfl) (by kernel_rfl) (by kernel_rfl) (fun _ _ _ h => h) (Or.inl ⟨by rfl, ?yuf8⟩) (by assumption) ?nuf8
            case yuf8 => (intro wS hSw; (try dsimp only at hSw); go_simp; try rfl)
            try simp only [Act.put, List.setIfInBounds_toArray, List.set_cons_zero, List.set_cons_succ]
            refine wpAnyH_take (i := 9) (v := ?_) (ops_at rfl) (by kernel_rfl) (by kernel_rfl) (by kernel_rfl) (fun _ _ _ h => h) (Or.inl ⟨by rfl, ?yuf9⟩) (by assumption) ?nuf9
            case yuf9 => (intro wS hSw; (try dsimp only at hSw); go_simp; try rfl)
            try simp only [Act.put, List.setIfInBounds_toArray, List.set_cons_zero, List.set_cons_succ]
            refine wpAnyH_take (i := 10) (v := ?_) (ops_at rfl) (by kernel_rfl) (by kernel_rfl) (by kernel_rfl) (fun _ _ _ h => h) (Or.inl ⟨by rfl, ?yuf10⟩) (by assumption) ?nuf10
            case yuf10 => (intro wS hSw; (try dsimp only at hSw); go_simp; try rfl)
            try simp only [Act.put, List.setIfInBounds_toArray, List.set_cons_zero, List.set_cons_succ]
            refine wpAnyH_take (i := 11) (v := ?_) (ops_at rfl) (by kernel_rfl) (by kernel_rfl) (by kernel_rfl) (fun _ _ _ h => h) (Or.inl ⟨by rfl, ?yuf11⟩) (by assumption) ?nuf11
            case yuf11 => (intro wS hSw; (try dsimp only at hSw); go_simp; try rfl)
            try simp only [Act.put, List.setIfInBounds_toArray, List.set_cons_zero, List.set_cons_succ]
            refine wpAnyH_take (i := 12) (v := ?_) (ops_at rfl) (by kernel_rfl) (by kernel_rfl) (by kernel_rfl) (fun _ _ _ h => h) (Or.inl ⟨by rfl, ?yuf12⟩) (by assumption) ?nuf12
            case yuf12 => (intro wS hSw; (try dsimp only at hSw); go_simp; try rfl)
            try simp only [Act.put, List.setIfInBounds_toArray, List.set_cons_zero, List.set_cons_succ]
            refine wpAnyH_take (i := 13) (v := ?_) (ops_at rfl) (by kernel_rfl) (by kernel_rfl) (by kernel_rfl) (fun _ _ _ h => h) (Or.inl ⟨by rfl, ?yuf13⟩) (by assumption) ?nuf13
            case yuf13 => (intro wS hSw; (try dsimp only at hSw); go_simp; try rfl)
            try simp only [Act.put, List.setIfInBounds_toArray, List.set_cons_zero, List.set_cons_succ]
            refine wpAnyH_take (i := 14) (v := ?_) (ops_at rfl) (by kernel_rfl) (by kernel_rfl) (by kernel_rfl) (fun _ _ _ h => h) (Or.inl ⟨by rfl, ?yuf14⟩) (by assumption) ?nuf14
            case yuf14 => (intro wS hSw; (try dsimp only at hSw); go_simp; try rfl)
            try simp only [Act.put, List.setIfInBounds_toArray, List.set_cons_zero, List.set_cons_succ]
            refine wpAnyH_take (i := 15) (v := ?_) (ops_at rfl) (by kernel_rfl) (by kernel_rfl) (by kernel_rfl) (fun _ _ _ h => h) (Or.inl ⟨by rfl, ?yuf15⟩) (by assumption) ?nuf15
            case yuf15 => (intro wS hSw; (try dsimp only at hSw); go_simp; try rfl)
            try simp only [Act.put, List.setIfInBounds_toArray, List.set_cons_zero, List.set_cons_succ]
            refine wpAnyH_take (i := 16) (v := ?_) (ops_at rfl) (by kernel_rfl) (by kernel_rfl) (by kernel_rfl) (fun _ _ _ h => h) (Or.inl ⟨by rfl, ?yuf16⟩) (by assumption) ?nuf16
            case yuf16 => (intro wS hSw; (try dsimp only at hSw); go_simp; try rfl)
            try simp only [Act.put, List.setIfInBounds_toArray, List.set_cons_zero, List.set_cons_succ]
            refine wpAnyH_take (i := 17) (v := ?_) (ops_at rfl) (by kernel_rfl) (by kernel_rfl) (by kernel_rfl) (fun _ _ _ h => h) (Or.inl ⟨by rfl, ?yuf17⟩) (by assumption) ?nuf17
            case yuf17 => (intro wS hSw; (try dsimp only at hSw); go_simp; try rfl)
            try simp only [Act.put, List.setIfInBounds_toArray, List.set_cons_zero, List.set_cons_succ]
            refine wpAnyH_take (i := 18) (v := ?_) (ops_at rfl) (by kernel_rfl) (by kernel_rfl) (by kernel_rfl) (fun _ _ _ h => h) (Or.inl ⟨by rfl, ?yuf18⟩) (by assumption) ?nuf18
            case yuf18 => (intro wS hSw; (try dsimp only at hSw); go_simp; try rfl)
            try simp only [Act.put, List.setIfInBounds_toArray, List.set_cons_zero, List.set_cons_succ]
            refine wpAnyH_take (i := 19) (v := ?_) (ops_at rfl) (by kernel_rfl) (by kernel_rfl) (by kernel_rfl) (fun _ _ _ h => h) (Or.inl ⟨by rfl, ?yuf19⟩) (by assumption) ?nuf19
            case yuf19 => (intro wS hSw; (try dsimp only at hSw); go_simp; try rfl)
            try simp only [Act.put, List.setIfInBounds_toArray, List.set_cons_zero, List.set_cons_succ]
            refine wpAnyH_take (i := 20) (v := ?_) (ops_at rfl) (by kernel_rfl) (by kernel_rfl) (by kernel_rfl) (fun _ _ _ h => h) (Or.inl ⟨by rfl, ?yuf20⟩) (by assumption) ?nuf20
            case yuf20 => (intro wS hSw; (try dsimp only at hSw); go_simp; try rfl)
            try simp only [Act.put, List.setIfInBounds_toArray, List.set_cons_zero, List.set_cons_succ]
            refine wpAnyH_take (i := 21) (v := ?_) (ops_at rfl) (by kernel_rfl) (by kernel_rfl) (by kernel_rfl) (fun _ _ _ h => h) (Or.inl ⟨by rfl, ?yuf21⟩) (by assumption) ?nuf21
            case yuf21 => (intro wS hSw; (try dsimp only at hSw); go_simp; try rfl)
            try simp only [Act.put, List.setIfInBounds_toArray, List.set_cons_zero, List.set_cons_succ]
            refine wpAnyH_take (i := 22) (v := ?_) (ops_at rfl) (by kernel_rfl) (by kernel_rfl) (by kernel_rfl) (fun _ _ _ h => h) (Or.inl ⟨by rfl, ?yuf22⟩) (by assumption) ?nuf22
            case yuf22 => (intro wS hSw; (try dsimp only at hSw); go_simp; try rfl)
            try simp only [Act.put, List.setIfInBounds_toArray, List.set_cons_zero, List.set_cons_succ]
            refine wpAnyH_take (i := 23) (v := ?_) (ops_at rfl) (by kernel_rfl) (by kernel_rfl) (by kernel_rfl) (fun _ _ _ h => h) (Or.inl ⟨by rfl, ?yuf23⟩) (by assumption) ?nuf23
            case yuf23 => (intro wS hSw; (try dsimp only at hSw); go_simp; try rfl)
            try simp only [Act.put, List.setIfInBounds_toArray, List.set_cons_zero, List.set_cons_succ]
            refine wpAnyH_take (i := 24) (v := ?_) (ops_at rfl) (by kernel_rfl) (by kernel_rfl) (by kernel_rfl) (fun _ _ _ h => h) (Or.inl ⟨by rfl, ?yuf24⟩) (by assumption) ?nuf24
            case yuf24 => (intro wS hSw; (try dsimp only at hSw); go_simp; try rfl)
            try simp only [Act.put, List.setIfInBounds_toArray, List.set_cons_zero, List.set_cons_succ]
            refine wpAnyH_done (by kernel_rfl) ?_ _
            clear e1 e2 e3 e4 e5 e6
            go_wp2
            go_roundw
            case rel =>
              refine ⟨k + 1, by omega, by omega, by go_num, drewB HBK.out, fun c hc => ?_⟩
              rw [show k + 1 - 1 = (k - 1) + 1 by omega, upL_succ, List.mem_append, List.mem_singleton] at hc
              rcases hc with hc | rfl
              · exact HNO.out c hc
              · rw [show k - 1 + 1 = k by omega, hd]; exact HSUM.out
            case measure => simp [intOf]; omega
          · go_wp2_with fail
            refine wp_region_held_drew (S := (fun wq => wq.cell? ⟨F, a, none⟩ = some (.slice (some ⟨g, 0, none⟩) (H + 1) (H + 1)) ∧ wq.cell? ⟨g, b, none⟩ = some (.int .i64 v) ∧ wq.cell? ⟨F, k, none⟩ = some (.slice (some ⟨g1, 0, none⟩) (H + 1) (H + 1)) ∧ wq.cell? ⟨g1, b, none⟩ = some (.int .i64 v1) ∧ wq.cell? ⟨F, d, none⟩ = some (.slice (some ⟨g2, 0, none⟩) (H + 1) (H + 1)) ∧ wq.cell? ⟨g2, b, none⟩ = some (.int .i64 v2))) (by kernel_rfl) ⟨e5, e6, e1, e2, e3, e4⟩ (fun hH0 => ?_)
            refine wpAnyH_take (i := 0) (v := ?_) (ops_at rfl) (by kernel_rfl) (by kernel_rfl) (by kernel_rfl) (fun _ _ _ h => h) (Or.inl ⟨by rfl, ?yut0⟩) (by assumption) ?nut0
            case yut0 => (intro wS hSw; (try dsimp only at hSw); go_simp; try rfl)
            try simp only [Act.put, List.setIfInBounds_toArray, List.set_cons_zero, List.set_cons_succ]
            refine wpAnyH_take (i := 1) (v := ?_) (ops_at rfl) (by kernel_rfl) (by kernel_rfl) (by kernel_rfl) (fun _ _ _ h => h) (Or.inl ⟨by rfl, ?yut1⟩) (by assumption) ?nut1
            case yut1 => (intro wS hSw; (try dsimp only at hSw); go_simp; try rfl)
            try simp only [Act.put, List.setIfInBounds_toArray, List.set_cons_zero, List.set_cons_succ]
            refine wpAnyH_take (i := 2) (v := ?_) (ops_at rfl) (by kernel_rfl) (by kernel_rfl) (by kernel_rfl) (fun _ _ _ h => h) (Or.inl ⟨by rfl, ?yut2⟩) (by assumption) ?nut2
            case yut2 => (intro wS hSw; (try dsimp only at hSw); go_simp; try rfl)
            try simp only [Act.put, List.setIfInBounds_toArray, List.set_cons_zero, List.set_cons_succ]
            refine wpAnyH_take (i := 3) (v := ?_) (ops_at rfl) (by kernel_rfl) (by kernel_rfl) (by kernel_rfl) (fun _ _ _ h => h) (Or.inl ⟨by rfl, ?yut3⟩) (by assumption) ?nut3
            case yut3 => (intro wS hSw; (try dsimp only at hSw); go_simp; try rfl)
            try simp only [Act.put, List.setIfInBounds_toArray, List.set_cons_zero, List.set_cons_succ]
            refine wpAnyH_take (i := 4) (v := ?_) (ops_at rfl) (by kernel_rfl) (by kernel_rfl) (by kernel_rfl) (fun _ _ _ h => h) (Or.inl ⟨by rfl, ?yut4⟩) (by assumption) ?nut4
            case yut4 => (intro wS hSw; (try dsimp only at hSw); go_simp; try rfl)
            try simp only [Act.put, List.setIfInBounds_toArray, List.set_cons_zero, List.set_cons_succ]
            refine wpAnyH_take (i := 5) (v := ?_) (ops_at rfl) (by kernel_rfl) (by kernel_rfl) (by kernel_rfl) (fun _ _ _ h => h) (Or.inl ⟨by rfl, ?yut5⟩) (by assumption) ?nut5
            case yut5 => (intro wS hSw; (try dsimp only at hSw); go_simp; try rfl)
            try simp only [Act.put, List.setIfInBounds_toArray, List.set_cons_zero, List.set_cons_succ]
            refine wpAnyH_take (i := 6) (v := ?_) (ops_at rfl) (by kernel_rfl) (by kernel_rfl) (by kernel_rfl) (fun _ _ _ h => h) (Or.inl ⟨by rfl, ?yut6⟩) (by assumption) ?nut6
            case yut6 => (intro wS hSw; (try dsimp only at hSw); go_simp; try rfl)
            try simp only [Act.put, List.setIfInBounds_toArray, List.set_cons_zero, List.set_cons_succ]
            refine wpAnyH_take (i := 7) (v := ?_) (ops_at rfl) (by kernel_rfl) (by kernel_rfl) (by kernel_rfl) (fun _ _ _ h => h) (Or.inl ⟨by rfl, ?yut7⟩) (by assumption) ?nut7
            case yut7 => (intro wS hSw; (try dsimp only at hSw); go_simp; try rfl)
            try simp only [Act.put, List.setIfInBounds_toArray, List.set_cons_zero, List.set_cons_succ]
            refine wpAnyH_take (i := 8) (v := ?_) (ops_at rfl) (by kernel_rfl) (by kernel_rfl) (by kernel_rfl) (fun _ _ _ h => h) (Or.inl ⟨by rfl, ?yut8⟩) (by assumption) ?nut8
            case yut8 => (intro wS hSw; (try dsimp only at hSw); go_simp; try rfl)
            try simp only [Act.put, List.setIfInBounds_toArray, List.set_cons_zero, List.set_cons_succ]
            refine wpAnyH_take (i := 9) (v := ?_) (ops_at rfl) (by kernel_rfl) (by kernel_rfl) (by kernel_rfl) (fun _ _ _ h => h) (Or.inl ⟨by rfl, ?yut9⟩) (by assumption) ?nut9
            case yut9 => (intro wS hSw; (try dsimp only at hSw); go_simp; try rfl)
            try simp only [Act.put, List.setIfInBounds_toArray, List.set_cons_zero, List.set_cons_succ]
            refine wpAnyH_take (i := 10) (v := ?_) (ops_at rfl) (by kernel_rfl) (by kernel_rfl) (by kernel_rfl) (fun _ _ _ h => h) (Or.inl ⟨by rfl, ?yut10⟩) (by assumption) ?nut10
            case yut10 => (intro wS hSw; (try dsimp only at hSw); go_simp; try rfl)
            try simp only [Act.put, List.setIfInBounds_toArray, List.set_cons_zero, List.set_cons_succ]
            refine wpAnyH_take (i := 11) (v := ?_) (ops_at rfl) (by kernel_rfl) (by kernel_rfl) (by kernel_rfl) (fun _ _ _ h => h) (Or.inl ⟨by rfl, ?yut11⟩) (by assumption) ?nut11
            case yut11 => (intro wS hSw; (try dsimp only at hSw); go_simp; try rfl)
            try simp only [Act.put, List.setIfInBounds_toArray, List.set_cons_zero, List.set_cons_succ]
            refine wpAnyH_take (i := 12) (v := ?_) (ops_at rfl) (by kernel_rfl) (by kernel_rfl) (by kernel_rfl) (fun _ _ _ h => h) (Or.inl ⟨by rfl, ?yut12⟩) (by assumption) ?nut12
            case yut12 => (intro wS hSw; (try dsimp only at hSw); go_simp; try rfl)
            try simp only [Act.put, List.setIfInBounds_toArray, List.set_cons_zero, List.set_cons_succ]
            refine wpAnyH_take (i := 13) (v := ?_) (ops_at rfl) (by kernel_rfl) (by kernel_rfl) (by kernel_rfl) (fun _ _ _ h => h) (Or.inl ⟨by rfl, ?yut13⟩) (by assumption) ?nut13
            case yut13 => (intro wS hSw; (try dsimp only at hSw); go_simp; try rfl)
            try simp only [Act.put, List.setIfInBounds_toArray, List.set_cons_zero, List.set_cons_succ]
            refine wpAnyH_take (i := 14) (v := ?_) (ops_at rfl) (by kernel_rfl) (by kernel_rfl) (by kernel_rfl) (fun _ _ _ h => h) (Or.inl ⟨by rfl, ?yut14⟩) (by assumption) ?nut14
            case yut14 => (intro wS hSw; (try dsimp only at hSw); go_simp; try rfl)
            try simp only [Act.put, List.setIfInBounds_toArray, List.set_cons_zero, List.set_cons_succ]
            refine wpAnyH_take (i := 15) (v := ?_) (ops_at rfl) (by kernel_rfl) (by kernel_rfl) (by kernel_rfl) (fun _ _ _ h => h) (Or.inl ⟨by rfl, ?yut15⟩) (by assumption) ?nut15
            case yut15 => (intro wS hSw; (try dsimp only at hSw); go_simp; try rfl)
            try simp only [Act.put, List.setIfInBounds_toArray, List.set_cons_zero, List.set_cons_succ]
            refine wpAnyH_take (i := 16) (v := ?_) (ops_at rfl) (by kernel_rfl) (by kernel_rfl) (by kernel_rfl) (fun _ _ _ h => h) (Or.inl ⟨by rfl, ?yut16⟩) (by assumption) ?nut16
            case yut16 => (intro wS hSw; (try dsimp only at hSw); go_simp; try rfl)
            try simp only [Act.put, List.setIfInBounds_toArray, List.set_cons_zero, List.set_cons_succ]
            refine wpAnyH_take (i := 17) (v := ?_) (ops_at rfl) (by kernel_rfl) (by kernel_rfl) (by kernel_rfl) (fun _ _ _ h => h) (Or.inl ⟨by rfl, ?yut17⟩) (by assumption) ?nut17
            case yut17 => (intro wS hSw; (try dsimp only at hSw); go_simp; try rfl)
            try simp only [Act.put, List.setIfInBounds_toArray, List.set_cons_zero, List.set_cons_succ]
            refine wpAnyH_take (i := 18) (v := ?_) (ops_at rfl) (by kernel_rfl) (by kernel_rfl) (by kernel_rfl) (fun _ _ _ h => h) (Or.inl ⟨by rfl, ?yut18⟩) (by assumption) ?nut18
            case yut18 => (intro wS hSw; (try dsimp only at hSw); go_simp; try rfl)
            try simp only [Act.put, List.setIfInBounds_toArray, List.set_cons_zero, List.set_cons_succ]
            refine wpAnyH_take (i := 19) (v := ?_) (ops_at rfl) (by kernel_rfl) (by kernel_rfl) (by kernel_rfl) (fun _ _ _ h => h) (Or.inl ⟨by rfl, ?yut19⟩) (by assumption) ?nut19
            case yut19 => (intro wS hSw; (try dsimp only at hSw); go_simp; try rfl)
            try simp only [Act.put, List.setIfInBounds_toArray, List.set_cons_zero, List.set_cons_succ]
            refine wpAnyH_take (i := 20) (v := ?_) (ops_at rfl) (by kernel_rfl) (by kernel_rfl) (by kernel_rfl) (fun _ _ _ h => h) (Or.inl ⟨by rfl, ?yut20⟩) (by assumption) ?nut20
            case yut20 => (intro wS hSw; (try dsimp only at hSw); go_simp; try rfl)
            try simp only [Act.put, List.setIfInBounds_toArray, List.set_cons_zero, List.set_cons_succ]
            refine wpAnyH_take (i := 21) (v := ?_) (ops_at rfl) (by kernel_rfl) (by kernel_rfl) (by kernel_rfl) (fun _ _ _ h => h) (Or.inl ⟨by rfl, ?yut21⟩) (by assumption) ?nut21
            case yut21 => (intro wS hSw; (try dsimp only at hSw); go_simp; try rfl)
            try simp only [Act.put, List.setIfInBounds_toArray, List.set_cons_zero, List.set_cons_succ]
            refine wpAnyH_take (i := 22) (v := ?_) (ops_at rfl) (by kernel_rfl) (by kernel_rfl) (by kernel_rfl) (fun _ _ _ h => h) (Or.inl ⟨by rfl, ?yut22⟩) (by assumption) ?nut22
            case yut22 => (intro wS hSw; (try dsimp only at hSw); go_simp; try rfl)
            try simp only [Act.put, List.setIfInBounds_toArray, List.set_cons_zero, List.set_cons_succ]
            refine wpAnyH_take (i := 23) (v := ?_) (ops_at rfl) (by kernel_rfl) (by kernel_rfl) (by kernel_rfl) (fun _ _ _ h => h) (Or.inl ⟨by rfl, ?yut23⟩) (by assumption) ?nut23
            case yut23 => (intro wS hSw; (try dsimp only at hSw); go_simp; try rfl)
            try simp only [Act.put, List.setIfInBounds_toArray, List.set_cons_zero, List.set_cons_succ]
            refine wpAnyH_take (i := 24) (v := ?_) (ops_at rfl) (by kernel_rfl) (by kernel_rfl) (by kernel_rfl) (fun _ _ _ h => h) (Or.inl ⟨by rfl, ?yut24⟩) (by assumption) ?nut24
            case yut24 => (intro wS hSw; (try dsimp only at hSw); go_simp; try rfl)
            try simp only [Act.put, List.setIfInBounds_toArray, List.set_cons_zero, List.set_cons_succ]
            refine wpAnyH_done (by kernel_rfl) ?_ _
            clear e1 e2 e3 e4 e5 e6
            have HRES := Lib.hid (show (true, (k : Int), true) = r by
              rw [← HR.out, HFC.out, halfL_parts2]
              obtain ⟨rr, hrr⟩ := upL_split (a := a) (b := b) (show k - 1 < a / 2 by omega)
              rw [hrr, List.append_assoc, find_app HNO.out (by rw [show k - 1 + 1 = k by omega, hd]; exact HSUM.out)]
              rw [cutR, if_pos (by show k - 1 + 1 < a; omega), show k - 1 + 1 = k by omega])
            go_wp2
            go_ret3
            exact ⟨by rw [← HRES.out]; rfl, HB1.out.trans ((drewB HBK.out).mono HB1.out.size)⟩
        · have hlt' : ¬ (2 * (k : Int)) ≤ (a : Int) := by omega
          have hdt : decide ((2 * (k : Int)) ≤ (a : Int)) = false := decide_eq_false hlt'
          have hke : k - 1 = a / 2 := by omega
          have HUP := Lib.hid (show ∀ c ∈ upL a b (a / 2), (sumT (valB ps tu) c == v) = false by rw [← hke]; exact HNO.out)
          have HSl := Lib.hid HBK.out
          clear hw2 hlt' hdt HNO hke
          go_wp2
          go_loopw [14] (fun i wk => ∃ k : Nat, 1 ≤ k ∧ 2 * (k - 1) ≤ b ∧ i = .int .i64 (k : Int) ∧ Below w1.heap.size w1 wk ∧ ∀ c ∈ lvL a b (k - 1), (sumT (valB ps tu) c == v) = false) (fun i _ => 25 - (intOf i).toNat)
          case atStart => exact ⟨1, by omega, by omega, rfl, HSl.out, fun c hc => by simp [lvL] at hc⟩
          case round =>
            obtain ⟨k, hk1, hk2, rfl, hbk, hno⟩ := hrel
            have HBK := Lib.hid hbk
            have HNO := Lib.hid hno
            have HTK := Lib.hid (HT1.out.below hbk)
            have e5 := (hbk.cell (cell_lt HE.out.1)).trans HE.out.1
            have e6 := (hbk.cell (cell_lt HE.out.2)).trans HE.out.2
            have HE56 := Lib.hid (And.intro e5 e6)
            clear hbk hno e5 e6
            have hk24 : k ≤ 25 := by omega
            have hw2 : IntKind.i64.wrap (2 * (k : Int)) = 2 * (k : Int) := by rw [IntKind.wrap_i64]; omega
            by_cases hlt : 2 * k ≤ b
            · have hlt' : (2 * (k : Int)) ≤ (b : Int) := by omega
              have hdt : decide ((2 * (k : Int)) ≤ (b : Int)) = true := decide_eq_true hlt'
              obtain ⟨d, hd⟩ : ∃ d, b - k = d := ⟨_, rfl⟩
              have hsub : (b : Int) - (k : Int) = (d : Int) := by omega
              have hwd : IntKind.i64.wrap (d : Int) = (d : Int) := by rw [IntKind.wrap_i64]; omega
              obtain ⟨g1, e1, e2⟩ := HTK.out.read (a := a) (b := k) (by omega) (by omega) (by omega) (by omega) (by omega)
              obtain ⟨g2, e3, e4⟩ := HTK.out.read (a := a) (b := d) (by omega) (by omega) (by omega) (by omega) (by omega)
              have e5 := HE56.out.1
              have e6 := HE56.out.2
              obtain rfl : g1 = g := by have h := e1.symm.trans e5; simp at h; exact h
              obtain rfl : g2 = g1 := by have h := e3.symm.trans e5; simp at h; exact h
              have q1 := valB_bd4 HVS.out tu a k (by omega) (by omega) (by omega) (by omega)
              have q2 := valB_bd4 HVS.out tu a d (by omega) (by omega) (by omega) (by omega)
              obtain ⟨v1, hv1⟩ : ∃ v1, valB ps tu a k = v1 := ⟨_, rfl⟩
              obtain ⟨v2, hv2⟩ : ∃ v2, valB ps tu a d = v2 := ⟨_, rfl⟩
              rw [hv1] at e2 q1
              rw [hv2] at e4 q2
              have hwv : IntKind.i64.wrap (v1 + v2) = v1 + v2 := by rw [IntKind.wrap_i64]; omega
              obtain ⟨tt, htt⟩ : ∃ tt, (v1 + v2 == v) = tt := ⟨_, rfl⟩
              have HSUM := Lib.hid (show (sumT (valB ps tu) ((a, k), (a, d)) == v) = tt by rw [← htt]; simp only [sumT, hv1, hv2])
              clear hv1 hv2
              have hj0 : (k : Int) < (H : Int) + 1 := by omega
              have hj1 : (d : Int) < (H : Int) + 1 := by omega
              cases tt
              · go_wp2_with fail
                refine wp_region_held_drew (S := (fun wq => wq.cell? ⟨F, a, none⟩ = some (.slice (some ⟨g2, 0, none⟩) (H + 1) (H + 1)) ∧ wq.cell? ⟨g2, b, none⟩ = some (.int .i64 v) ∧ wq.cell? ⟨F, a, none⟩ = some (.slice (some ⟨g2, 0, none⟩) (H + 1) (H + 1)) ∧ wq.cell? ⟨g2, k, none⟩ = some (.int .i64 v1) ∧ wq.cell? ⟨F, a, none⟩ = some (.slice (some ⟨g2, 0, none⟩) (H + 1) (H + 1)) ∧ wq.cell? ⟨g2, d, none⟩ = some (.int .i64 v2))) (by kernel_rfl) ⟨e5, e6, e1, e2, e3, e4⟩ (fun hH0 => ?_)
                refine wpAnyH_take (i := 0) (v := ?_) (ops_at rfl) (by kernel_rfl) (by kernel_rfl) (by kernel_rfl) (fun _ _ _ h => h) (Or.inl ⟨by rfl, ?ylf0⟩) (by assumption) ?nlf0
                case ylf0 => (intro wS hSw; (try dsimp only at hSw); go_simp; try rfl)
                try simp only [Act.put, List.setIfInBounds_toArray, List.set_cons_zero, List.set_cons_succ]
                refine wpAnyH_take (i := 1) (v := ?_) (ops_at rfl) (by kernel_rfl) (by kernel_rfl) (by kernel_rfl) (fun _ _ _ h => h) (Or.inl ⟨by rfl, ?ylf1⟩) (by assumption) ?nlf1
                case ylf1 => (intro wS hSw; (try dsimp only at hSw); go_simp; try rfl)
                try simp only [Act.put, List.setIfInBounds_toArray, List.set_cons_zero, List.set_cons_succ]
                refine wpAnyH_take (i := 2) (v := ?_) (ops_at rfl) (by kernel_rfl) (by kernel_rfl) (by kernel_rfl) (fun _ _ _ h => h) (Or.inl ⟨by rfl, ?ylf2⟩) (by assumption) ?nlf2
                case ylf2 => (intro wS hSw; (try dsimp only at hSw); go_simp; try rfl)
                try simp only [Act.put, List.setIfInBounds_toArray, List.set_cons_zero, List.set_cons_succ]
                refine wpAnyH_take (i := 3) (v := ?_) (ops_at rfl) (by kernel_rfl) (by kernel_rfl) (by kernel_rfl) (fun _ _ _ h => h) (Or.inl ⟨by rfl, ?ylf3⟩) (by assumption) ?nlf3
                case ylf3 => (intro wS hSw; (try dsimp only at hSw); go_simp; try rfl)
                try simp only [Act.put, List.setIfInBounds_toArray, List.set_cons_zero, List.set_cons_succ]
                refine wpAnyH_take (i := 4) (v := ?_) (ops_at rfl) (by kernel_rfl) (by kernel_rfl) (by kernel_rfl) (fun _ _ _ h => h) (Or.inl ⟨by rfl, ?ylf4⟩) (by assumption) ?nlf4
                case ylf4 => (intro wS hSw; (try dsimp only at hSw); go_simp; try rfl)
                try simp only [Act.put, List.setIfInBounds_toArray, List.set_cons_zero, List.set_cons_succ]
                refine wpAnyH_take (i := 5) (v := ?_) (ops_at rfl) (by kernel_rfl) (by kernel_rfl) (by kernel_rfl) (fun _ _ _ h => h) (Or.inl ⟨by rfl, ?ylf5⟩) (by assumption) ?nlf5
                case ylf5 => (intro wS hSw; (try dsimp only at hSw); go_simp; try rfl)
                try simp only [Act.put, List.setIfInBounds_toArray, List.set_cons_zero, List.set_cons_succ]
                refine wpAnyH_take (i := 6) (v := ?_) (ops_at rfl) (by kernel_rfl) (by kernel_rfl) (by kernel_rfl) (fun _ _ _ h => h) (Or.inl ⟨by rfl, ?ylf6⟩) (by assumption) ?nlf6
                case ylf6 => (intro wS hSw; (try dsimp only at hSw); go_simp; try rfl)
                try simp only [Act.put, List.setIfInBounds_toArray, List.set_cons_zero, List.set_cons_succ]
                refine wpAnyH_take (i := 7) (v := ?_) (ops_at rfl) (by kernel_rfl) (by kernel_rfl) (by kernel_rfl) (fun _ _ _ h => h) (Or.inl ⟨by rfl, ?ylf7⟩) (by assumption) ?nlf7
                case ylf7 => (intro wS hSw; (try dsimp only at hSw); go_simp; try rfl)
                try simp only [Act.put, List.setIfInBounds_toArray, List.set_cons_zero, List.set_cons_succ]
                refine wpAnyH_take (i := 8) (v := ?_) (ops_at rfl) (by kernel_rfl) (by kernel_rfl) (by kernel_rfl) (fun _ _ _ h => h) (Or.inl ⟨by rfl, ?ylf8⟩) (by assumption) ?nlf8
                case ylf8 => (intro wS hSw; (try dsimp only at hSw); go_simp; try rfl)
                try simp only [Act.put, List.setIfInBounds_toArray, List.set_cons_zero, List.set_cons_succ]
                refine wpAnyH_take (i := 9) (v := ?_) (ops_at rfl) (by kernel_rfl) (by kernel_rfl) (by kernel_rfl) (fun _ _ _ h => h) (Or.inl ⟨by rfl, ?ylf9⟩) (by assumption) ?nlf9
                case ylf9 => (intro wS hSw; (try dsimp only at hSw); go_simp; try rfl)
                try simp only [Act.put, List.setIfInBounds_toArray, List.set_cons_zero, List.set_cons_succ]
                refine wpAnyH_take (i := 10) (v := ?_) (ops_at rfl) (by kernel_rfl) (by kernel_rfl) (by kernel_rfl) (fun _ _ _ h => h) (Or.inl ⟨by rfl, ?ylf10⟩) (by assumption) ?nlf10
                case ylf10 => (intro wS hSw; (try dsimp only at hSw); go_simp; try rfl)
                try simp only [Act.put, List.setIfInBounds_toArray, List.set_cons_zero, List.set_cons_succ]
                refine wpAnyH_take (i := 11) (v := ?_) (ops_at rfl) (by kernel_rfl) (by kernel_rfl) (by kernel_rfl) (fun _ _ _ h => h) (Or.inl ⟨by rfl, ?ylf11⟩) (by assumption) ?nlf11
                case ylf11 => (intro wS hSw; (try dsimp only at hSw); go_simp; try rfl)
                try simp only [Act.put, List.setIfInBounds_toArray, List.set_cons_zero, List.set_cons_succ]
                refine wpAnyH_take (i := 12) (v := ?_) (ops_at rfl) (by kernel_rfl) (by kernel_rfl) (by kernel_rfl) (fun _ _ _ h => h) (Or.inl ⟨by rfl, ?ylf12⟩) (by assumption) ?nlf12
                case ylf12 => (intro wS hSw; (try dsimp only at hSw); go_simp; try rfl)
                try simp only [Act.put, List.setIfInBounds_toArray, List.set_cons_zero, List.set_cons_succ]
                refine wpAnyH_take (i := 13) (v := ?_) (ops_at rfl) (by kernel_rfl) (by kernel_rfl) (by kernel_rfl) (fun _ _ _ h => h) (Or.inl ⟨by rfl, ?ylf13⟩) (by assumption) ?nlf13
                case ylf13 => (intro wS hSw; (try dsimp only at hSw); go_simp; try rfl)
                try simp only [Act.put, List.setIfInBounds_toArray, List.set_cons_zero, List.set_cons_succ]
                refine wpAnyH_take (i := 14) (v := ?_) (ops_at rfl) (by kernel_rfl) (by kernel_rfl) (by kernel_rfl) (fun _ _ _ h => h) (Or.inl ⟨by rfl, ?ylf14⟩) (by assumption) ?nlf14
                case ylf14 => (intro wS hSw; (try dsimp only at hSw); go_simp; try rfl)
                try simp only [Act.put, List.setIfInBounds_toArray, List.set_cons_zero, List.set_cons_succ]
                refine wpAnyH_take (i := 15) (v := ?_) (ops_at rfl) (by kernel_rfl) (by kernel_rfl) (by kernel_rfl) (fun _ _ _ h => h) (Or.inl ⟨by rfl, ?ylf15⟩) (by assumption) ?nlf15
                case ylf15 => (intro wS hSw; (try dsimp only at hSw); go_simp; try rfl)
                try simp only [Act.put, List.setIfInBounds_toArray, List.set_cons_zero, List.set_cons_succ]
                refine wpAnyH_take (i := 16) (v := ?_) (ops_at rfl) (by kernel_rfl) (by kernel_rfl) (by kernel_rfl) (fun _ _ _ h => h) (Or.inl ⟨by rfl, ?ylf16⟩) (by assumption) ?nlf16
                case ylf16 => (intro wS hSw; (try dsimp only at hSw); go_simp; try rfl)
                try simp only [Act.put, List.setIfInBounds_toArray, List.set_cons_zero, List.set_cons_succ]
                refine wpAnyH_take (i := 17) (v := ?_) (ops_at rfl) (by kernel_rfl) (by kernel_rfl) (by kernel_rfl) (fun _ _ _ h => h) (Or.inl ⟨by rfl, ?ylf17⟩) (by assumption) ?nlf17
                case ylf17 => (intro wS hSw; (try dsimp only at hSw); go_simp; try rfl)
                try simp only [Act.put, List.setIfInBounds_toArray, List.set_cons_zero, List.set_cons_succ]
                refine wpAnyH_take (i := 18) (v := ?_) (ops_at rfl) (by kernel_rfl) (by kernel_rfl) (by kernel_rfl) (fun _ _ _ h => h) (Or.inl ⟨by rfl, ?ylf18⟩) (by assumption) ?nlf18
                case ylf18 => (intro wS hSw; (try dsimp only at hSw); go_simp; try rfl)
                try simp only [Act.put, List.setIfInBounds_toArray, List.set_cons_zero, List.set_cons_succ]
                refine wpAnyH_take (i := 19) (v := ?_) (ops_at rfl) (by kernel_rfl) (by kernel_rfl) (by kernel_rfl) (fun _ _ _ h => h) (Or.inl ⟨by rfl, ?ylf19⟩) (by assumption) ?nlf19
                case ylf19 => (intro wS hSw; (try dsimp only at hSw); go_simp; try rfl)
                try simp only [Act.put, List.setIfInBounds_toArray, List.set_cons_zero, List.set_cons_succ]
                refine wpAnyH_take (i := 20) (v := ?_) (ops_at rfl) (by kernel_rfl) (by kernel_rfl) (by kernel_rfl) (fun _ _ _ h => h) (Or.inl ⟨by rfl, ?ylf20⟩) (by assumption) ?nlf20
                case ylf20 => (intro wS hSw; (try dsimp only at hSw); go_simp; try rfl)
                try simp only [Act.put, List.setIfInBounds_toArray, List.set_cons_zero, List.set_cons_succ]
                refine wpAnyH_take (i := 21) (v := ?_) (ops_at rfl) (by kernel_rfl) (by kernel_rfl) (by kernel_rfl) (fun _ _ _ h => h) (Or.inl ⟨by rfl, ?ylf21⟩) (by assumption) ?nlf21
                case ylf21 => (intro wS hSw; (try dsimp only at hSw); go_simp; try rfl)
                try simp only [Act.put, List.setIfInBounds_toArray, List.set_cons_zero, List.set_cons_succ]
                refine wpAnyH_take (i := 22) (v := ?_) (ops_at rfl) (by kernel_rfl) (by kernel_rfl) (by kernel_rfl) (fun _ _ _ h => h) (Or.inl ⟨by rfl, ?ylf22⟩) (by assumption) ?nlf22
                case ylf22 => (intro wS hSw; (try dsimp only at hSw); go_simp; try rfl)
                try simp only [Act.put, List.setIfInBounds_toArray, List.set_cons_zero, List.set_cons_succ]
                refine wpAnyH_take (i := 23) (v := ?_) (ops_at rfl) (by kernel_rfl) (by kernel_rfl) (by kernel_rfl) (fun _ _ _ h => h) (Or.inl ⟨by rfl, ?ylf23⟩) (by assumption) ?nlf23
                case ylf23 => (intro wS hSw; (try dsimp only at hSw); go_simp; try rfl)
                try simp only [Act.put, List.setIfInBounds_toArray, List.set_cons_zero, List.set_cons_succ]
                refine wpAnyH_take (i := 24) (v := ?_) (ops_at rfl) (by kernel_rfl) (by kernel_rfl) (by kernel_rfl) (fun _ _ _ h => h) (Or.inl ⟨by rfl, ?ylf24⟩) (by assumption) ?nlf24
                case ylf24 => (intro wS hSw; (try dsimp only at hSw); go_simp; try rfl)
                try simp only [Act.put, List.setIfInBounds_toArray, List.set_cons_zero, List.set_cons_succ]
                refine wpAnyH_done (by kernel_rfl) ?_ _
                clear e1 e2 e3 e4 e5 e6
                go_wp2
                go_roundw
                case rel =>
                  refine ⟨k + 1, by omega, by omega, by go_num, drewB HBK.out, fun c hc => ?_⟩
                  rw [show k + 1 - 1 = (k - 1) + 1 by omega, lvL_succ, List.mem_append, List.mem_singleton] at hc
                  rcases hc with hc | rfl
                  · exact HNO.out c hc
                  · rw [show k - 1 + 1 = k by omega, hd]; exact HSUM.out
                case measure => simp [intOf]; omega
              · go_wp2_with fail
                refine wp_region_held_drew (S := (fun wq => wq.cell? ⟨F, a, none⟩ = some (.slice (some ⟨g2, 0, none⟩) (H + 1) (H + 1)) ∧ wq.cell? ⟨g2, b, none⟩ = some (.int .i64 v) ∧ wq.cell? ⟨F, a, none⟩ = some (.slice (some ⟨g2, 0, none⟩) (H + 1) (H + 1)) ∧ wq.cell? ⟨g2, k, none⟩ = some (.int .i64 v1) ∧ wq.cell? ⟨F, a, none⟩ = some (.slice (some ⟨g2, 0, none⟩) (H + 1) (H + 1)) ∧ wq.cell? ⟨g2, d, none⟩ = some (.int .i64 v2))) (by kernel_rfl) ⟨e5, e6, e1, e2, e3, e4⟩ (fun hH0 => ?_)
                refine wpAnyH_take (i := 0) (v := ?_) (ops_at rfl) (by kernel_rfl) (by kernel_rfl) (by kernel_rfl) (fun _ _ _ h => h) (Or.inl ⟨by rfl, ?ylt0⟩) (by assumption) ?nlt0
                case ylt0 => (intro wS hSw; (try dsimp only at hSw); go_simp; try rfl)
                try simp only [Act.put, List.setIfInBounds_toArray, List.set_cons_zero, List.set_cons_succ]
                refine wpAnyH_take (i := 1) (v := ?_) (ops_at rfl) (by kernel_rfl) (by kernel_rfl) (by kernel_rfl) (fun _ _ _ h => h) (Or.inl ⟨by rfl, ?ylt1⟩) (by assumption) ?nlt1
                case ylt1 => (intro wS hSw; (try dsimp only at hSw); go_simp; try rfl)
                try simp only [Act.put, List.setIfInBounds_toArray, List.set_cons_zero, List.set_cons_succ]
                refine wpAnyH_take (i := 2) (v := ?_) (ops_at rfl) (by kernel_rfl) (by kernel_rfl) (by kernel_rfl) (fun _ _ _ h => h) (Or.inl ⟨by rfl, ?ylt2⟩) (by assumption) ?nlt2
                case ylt2 => (intro wS hSw; (try dsimp only at hSw); go_simp; try rfl)
                try simp only [Act.put, List.setIfInBounds_toArray, List.set_cons_zero, List.set_cons_succ]
                refine wpAnyH_take (i := 3) (v := ?_) (ops_at rfl) (by kernel_rfl) (by kernel_rfl) (by kernel_rfl) (fun _ _ _ h => h) (Or.inl ⟨by rfl, ?ylt3⟩) (by assumption) ?nlt3
                case ylt3 => (intro wS hSw; (try dsimp only at hSw); go_simp; try rfl)
                try simp only [Act.put, List.setIfInBounds_toArray, List.set_cons_zero, List.set_cons_succ]
                refine wpAnyH_take (i := 4) (v := ?_) (ops_at rfl) (by kernel_rfl) (by kernel_rfl) (by kernel_rfl) (fun _ _ _ h => h) (Or.inl ⟨by rfl, ?ylt4⟩) (by assumption) ?nlt4
                case ylt4 => (intro wS hSw; (try dsimp only at hSw); go_simp; try rfl)
                try simp only [Act.put, List.setIfInBounds_toArray, List.set_cons_zero, List.set_cons_succ]
                refine wpAnyH_take (i := 5) (v := ?_) (ops_at rfl) (by kernel_rfl) (by kernel_rfl) (by kernel_rfl) (fun _ _ _ h => h) (Or.inl ⟨by rfl, ?ylt5⟩) (by assumption) ?nlt5
                case ylt5 => (intro wS hSw; (try dsimp only at hSw); go_simp; try rfl)
                try simp only [Act.put, List.setIfInBounds_toArray, List.set_cons_zero, List.set_cons_succ]
                refine wpAnyH_take (i := 6) (v := ?_) (ops_at rfl) (by kernel_rfl) (by kernel_rfl) (by kernel_rfl) (fun _ _ _ h => h) (Or.inl ⟨by rfl, ?ylt6⟩) (by assumption) ?nlt6
                case ylt6 => (intro wS hSw; (try dsimp only at hSw); go_simp; try rfl)
                try simp only [Act.put, List.setIfInBounds_toArray, List.set_cons_zero, List.set_cons_succ]
                refine wpAnyH_take (i := 7) (v := ?_) (ops_at rfl) (by kernel_rfl) (by kernel_rfl) (by kernel_rfl) (fun _ _ _ h => h) (Or.inl ⟨by rfl, ?ylt7⟩) (by assumption) ?nlt7
                case ylt7 => (intro wS hSw; (try dsimp only at hSw); go_simp; try rfl)
                try simp only [Act.put, List.setIfInBounds_toArray, List.set_cons_zero, List.set_cons_succ]
                refine wpAnyH_take (i := 8) (v := ?_) (ops_at rfl) (by kernel_rfl) (by kernel_rfl) (by kernel_rfl) (fun _ _ _ h => h) (Or.inl ⟨by rfl, ?ylt8⟩) (by assumption) ?nlt8
                case ylt8 => (intro wS hSw; (try dsimp only at hSw); go_simp; try rfl)
                try simp only [Act.put, List.setIfInBounds_toArray, List.set_cons_zero, List.set_cons_succ]
                refine wpAnyH_take (i := 9) (v := ?_) (ops_at rfl) (by kernel_rfl) (by kernel_rfl) (by kernel_rfl) (fun _ _ _ h => h) (Or.inl ⟨by rfl, ?ylt9⟩) (by assumption) ?nlt9
                case ylt9 => (intro wS hSw; (try dsimp only at hSw); go_simp; try rfl)
                try simp only [Act.put, List.setIfInBounds_toArray, List.set_cons_zero, List.set_cons_succ]
                refine wpAnyH_take (i := 10) (v := ?_) (ops_at rfl) (by kernel_rfl) (by kernel_rfl) (by kernel_rfl) (fun _ _ _ h => h) (Or.inl ⟨by rfl, ?ylt10⟩) (by assumption) ?nlt10
                case ylt10 => (intro wS hSw; (try dsimp only at hSw); go_simp; try rfl)
                try simp only [Act.put, List.setIfInBounds_toArray, List.set_cons_zero, List.set_cons_succ]
                refine wpAnyH_take (i := 11) (v := ?_) (ops_at rfl) (by kernel_rfl) (by kernel_rfl) (by kernel_rfl) (fun _ _ _ h => h) (Or.inl ⟨by rfl, ?ylt11⟩) (by assumption) ?nlt11
                case ylt11 => (intro wS hSw; (try dsimp only at hSw); go_simp; try rfl)
                try simp only [Act.put, List.setIfInBounds_toArray, List.set_cons_zero, List.set_cons_succ]
                refine wpAnyH_take (i := 12) (v := ?_) (ops_at rfl) (by kernel_rfl) (by kernel_rfl) (by kernel_rfl) (fun _ _ _ h => h) (Or.inl ⟨by rfl, ?ylt12⟩) (by assumption) ?nlt12
                case ylt12 => (intro wS hSw; (try dsimp only at hSw); go_simp; try rfl)
                try simp only [Act.put, List.setIfInBounds_toArray, List.set_cons_zero, List.set_cons_succ]
                refine wpAnyH_take (i := 13) (v := ?_) (ops_at rfl) (by kernel_rfl) (by kernel_rfl) (by kernel_rfl) (fun _ _ _ h => h) (Or.inl ⟨by rfl, ?ylt13⟩) (by assumption) ?nlt13
                case ylt13 => (intro wS hSw; (try dsimp only at hSw); go_simp; try rfl)
                try simp only [Act.put, List.setIfInBounds_toArray, List.set_cons_zero, List.set_cons_succ]
                refine wpAnyH_take (i := 14) (v := ?_) (ops_at rfl) (by kernel_rfl) (by kernel_rfl) (by kernel_rfl) (fun _ _ _ h => h) (Or.inl ⟨by rfl, ?ylt14⟩) (by assumption) ?nlt14
                case ylt14 => (intro wS hSw; (try dsimp only at hSw); go_simp; try rfl)
                try simp only [Act.put, List.setIfInBounds_toArray, List.set_cons_zero, List.set_cons_succ]
                refine wpAnyH_take (i := 15) (v := ?_) (ops_at rfl) (by kernel_rfl) (by kernel_rfl) (by kernel_rfl) (fun _ _ _ h => h) (Or.inl ⟨by rfl, ?ylt15⟩) (by assumption) ?nlt15
                case ylt15 => (intro wS hSw; (try dsimp only at hSw); go_simp; try rfl)
                try simp only [Act.put, List.setIfInBounds_toArray, List.set_cons_zero, List.set_cons_succ]
                refine wpAnyH_take (i := 16) (v := ?_) (ops_at rfl) (by kernel_rfl) (by kernel_rfl) (by kernel_rfl) (fun _ _ _ h => h) (Or.inl ⟨by rfl, ?ylt16⟩) (by assumption) ?nlt16
                case ylt16 => (intro wS hSw; (try dsimp only at hSw); go_simp; try rfl)
                try simp only [Act.put, List.setIfInBounds_toArray, List.set_cons_zero, List.set_cons_succ]
                refine wpAnyH_take (i := 17) (v := ?_) (ops_at rfl) (by kernel_rfl) (by kernel_rfl) (by kernel_rfl) (fun _ _ _ h => h) (Or.inl ⟨by rfl, ?ylt17⟩) (by assumption) ?nlt17
                case ylt17 => (intro wS hSw; (try dsimp only at hSw); go_simp; try rfl)
                try simp only [Act.put, List.setIfInBounds_toArray, List.set_cons_zero, List.set_cons_succ]
                refine wpAnyH_take (i := 18) (v := ?_) (ops_at rfl) (by kernel_rfl) (by kernel_rfl) (by kernel_rfl) (fun _ _ _ h => h) (Or.inl ⟨by rfl, ?ylt18⟩) (by assumption) ?nlt18
                case ylt18 => (intro wS hSw; (try dsimp only at hSw); go_simp; try rfl)
                try simp only [Act.put, List.setIfInBounds_toArray, List.set_cons_zero, List.set_cons_succ]
                refine wpAnyH_take (i := 19) (v := ?_) (ops_at rfl) (by kernel_rfl) (by kernel_rfl) (by kernel_rfl) (fun _ _ _ h => h) (Or.inl ⟨by rfl, ?ylt19⟩) (by assumption) ?nlt19
                case ylt19 => (intro wS hSw; (try dsimp only at hSw); go_simp; try rfl)
                try simp only [Act.put, List.setIfInBounds_toArray, List.set_cons_zero, List.set_cons_succ]
                refine wpAnyH_take (i := 20) (v := ?_) (ops_at rfl) (by kernel_rfl) (by kernel_rfl) (by kernel_rfl) (fun _ _ _ h => h) (Or.inl ⟨by rfl, ?ylt20⟩) (by assumption) ?nlt20
                case ylt20 => (intro wS hSw; (try dsimp only at hSw); go_simp; try rfl)
                try simp only [Act.put, List.setIfInBounds_toArray, List.set_cons_zero, List.set_cons_succ]
                refine wpAnyH_take (i := 21) (v := ?_) (ops_at rfl) (by kernel_rfl) (by kernel_rfl) (by kernel_rfl) (fun _ _ _ h => h) (Or.inl ⟨by rfl, ?ylt21⟩) (by assumption) ?nlt21
                case ylt21 => (intro wS hSw; (try dsimp only at hSw); go_simp; try rfl)
                try simp only [Act.put, List.setIfInBounds_toArray, List.set_cons_zero, List.set_cons_succ]
                refine wpAnyH_take (i := 22) (v := ?_) (ops_at rfl) (by kernel_rfl) (by kernel_rfl) (by kernel_rfl) (fun _ _ _ h => h) (Or.inl ⟨by rfl, ?ylt22⟩) (by assumption) ?nlt22
                case ylt22 => (intro wS hSw; (try dsimp only at hSw); go_simp; try rfl)
                try simp only [Act.put, List.setIfInBounds_toArray, List.set_cons_zero, List.set_cons_succ]
                refine wpAnyH_take (i := 23) (v := ?_) (ops_at rfl) (by kernel_rfl) (by kernel_rfl) (by kernel_rfl) (fun _ _ _ h => h) (Or.inl ⟨by rfl, ?ylt23⟩) (by assumption) ?nlt23
                case ylt23 => (intro wS hSw; (try dsimp only at hSw); go_simp; try rfl)
                try simp only [Act.put, List.setIfInBounds_toArray, List.set_cons_zero, List.set_cons_succ]
                refine wpAnyH_take (i := 24) (v := ?_) (ops_at rfl) (by kernel_rfl) (by kernel_rfl) (by kernel_rfl) (fun _ _ _ h => h) (Or.inl ⟨by rfl, ?ylt24⟩) (by assumption) ?nlt24
                case ylt24 => (intro wS hSw; (try dsimp only at hSw); go_simp; try rfl)
                try simp only [Act.put, List.setIfInBounds_toArray, List.set_cons_zero, List.set_cons_succ]
                refine wpAnyH_done (by kernel_rfl) ?_ _
                clear e1 e2 e3 e4 e5 e6
                have HRES := Lib.hid (show (false, (k : Int), true) = r by
                  rw [← HR.out, HFC.out, halfL_parts2]
                  obtain ⟨rr, hrr⟩ := lvL_split (a := a) (b := b) (show k - 1 < b / 2 by omega)
                  rw [hrr, ← List.append_assoc, ← List.append_assoc, find_app (fun c hc => by rcases List.mem_append.1 hc with h | h; exact HUP.out c h; exact HNO.out c h) (by rw [show k - 1 + 1 = k by omega, hd]; exact HSUM.out)]
                  rw [cutR, if_neg (by show ¬ a < a; omega)]
                  show _ = (false, ((k - 1 + 1 : Nat) : Int), true)
                  rw [show k - 1 + 1 = k by omega])
                go_wp2
                go_ret3
                exact ⟨by rw [← HRES.out]; rfl, HB1.out.trans ((drewB HBK.out).mono HB1.out.size)⟩
            · have hlt' : ¬ (2 * (k : Int)) ≤ (b : Int) := by omega
              have hdt : decide ((2 * (k : Int)) ≤ (b : Int)) = false := decide_eq_false hlt'
              have hke : k - 1 = b / 2 := by omega
              have HRES := Lib.hid (show (false, (0 : Int), false) = r by
                rw [← HR.out, HFC.out, halfL_parts2, find_none (fun c hc => by rcases List.mem_append.1 hc with h | h; exact HUP.out c h; exact HNO.out c (by rw [hke]; exact h))]
                rfl)
              go_wp2
              go_ret3
              exact ⟨by rw [← HRES.out]; rfl, HB1.out.trans (HBK.out.mono HB1.out.size)⟩
end Go.Proofs.Ytjpejhpilfjheaa

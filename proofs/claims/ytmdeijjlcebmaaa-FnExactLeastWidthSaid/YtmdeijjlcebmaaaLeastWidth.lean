/-
  Both programs' least width for so many shelves.
  Conditions: the list has at most 1048576 books.
-/
import Derived.Test.YtmdeijjlcebmaaaShelfClone
import Derived.Deep.RegionHeld3
namespace Go.Proofs.Ytmdeijjlcebmaaa
set_option linter.unusedVariables false
open Go.RowKit

/-- How many shelves are filled. -/
def shelvesOf (bs : List (Int × Int)) (width : Int) : Nat := (fillL bs width).length

theorem fillK_mono {W W' : Int} {ts : List Int} (hW : 0 ≤ W) (hWW : W ≤ W') (ht : ∀ t ∈ ts, 1 ≤ t ∧ t ≤ W) (k : Nat) (hk : k ≤ ts.length) (hk1 : 1 ≤ k) :
    (fillK W' ts k).1.length < (fillK W ts k).1.length ∨ ((fillK W' ts k).1.length = (fillK W ts k).1.length ∧ W' - (fillK W' ts k).2 ≤ W - (fillK W ts k).2) := by
  induction k with
  | zero => omega
  | succ k ih =>
    have hk' : k < ts.length := hk
    have hx : ts[k]? = some ts[k] := List.getElem?_eq_getElem hk'
    have hb := ht ts[k] (List.getElem_mem _)
    obtain ⟨a1, a2, a3⟩ := fillK_bd hW ht k (by omega)
    obtain ⟨b1, b2, b3⟩ := fillK_bd (width := W') (by omega) (fun t h => by have := ht t h; omega) k (by omega)
    obtain ⟨t, hte⟩ : ∃ t, ts[k] = t := ⟨_, rfl⟩
    rw [hte] at hx hb
    rcases Nat.eq_zero_or_pos k with hk0 | hkp
    · subst hk0
      rw [fillK_new hx (fillK_first hx hb.1), fillK_new hx (fillK_first hx hb.1)]
      right
      refine ⟨rfl, ?_⟩
      simp only
      omega
    · have h := ih (by omega) hkp
      by_cases h1 : (fillK W ts k).2 < t
      · by_cases h2 : (fillK W' ts k).2 < t
        · rw [fillK_new hx h1, fillK_new hx h2]
          simp only [List.length_append, List.length_cons, List.length_nil]
          omega
        · rw [fillK_new hx h1, fillK_old hx (by omega : t ≤ (fillK W' ts k).2)]
          simp only [List.length_append, List.length_cons, List.length_nil]
          omega
      · by_cases h2 : (fillK W' ts k).2 < t
        · rw [fillK_old hx (by omega : t ≤ (fillK W ts k).2), fillK_new hx h2]
          simp only [List.length_append, List.length_cons, List.length_nil]
          omega
        · rw [fillK_old hx (by omega : t ≤ (fillK W ts k).2), fillK_old hx (by omega : t ≤ (fillK W' ts k).2)]
          simp only
          omega

theorem shelves_mono {bs : List (Int × Int)} {W W' : Int} (h : FillOk bs W) (hWW : W ≤ W') : shelvesOf bs W' ≤ shelvesOf bs W := by
  have := fillK_mono h.pos hWW h.ths bs.length (by rw [ths_length]; exact Nat.le_refl _) h.2.1
  unfold shelvesOf fillL
  omega

/-- A width for all books needs one shelf. -/
theorem fillK_all {W : Int} {ts : List Int} (ht : ∀ t ∈ ts, 1 ≤ t) (hW : ts.sum ≤ W) (k : Nat) (hk : k ≤ ts.length) (hk1 : 1 ≤ k) :
    (fillK W ts k).1.length = 1 ∧ (fillK W ts k).2 = W - (ts.take k).sum := by
  induction k with
  | zero => omega
  | succ k ih =>
    have hk' : k < ts.length := hk
    have hx : ts[k]? = some ts[k] := List.getElem?_eq_getElem hk'
    have hb := ht ts[k] (List.getElem_mem _)
    have hsum := sums_take ts hx
    have hle : (ts.take (k + 1)).sum ≤ ts.sum := by
      have e : ts.sum = (ts.take (k + 1)).sum + (ts.drop (k + 1)).sum := by rw [← List.sum_append, List.take_append_drop]
      have : 0 ≤ (ts.drop (k + 1)).sum := by
        have : ∀ ys : List Int, (∀ y ∈ ys, 1 ≤ y) → 0 ≤ ys.sum := by
          intro ys
          induction ys with
          | nil => intro _; simp
          | cons y ys ih =>
            intro hy
            have h1 := hy y List.mem_cons_self
            have h2 := ih (fun z hz => hy z (List.mem_cons_of_mem _ hz))
            simp only [List.sum_cons]
            omega
        exact this _ (fun y hy => ht y (List.mem_of_mem_drop hy))
      omega
    obtain ⟨t, hte⟩ : ∃ t, ts[k] = t := ⟨_, rfl⟩
    rw [hte] at hx hb hsum
    rcases Nat.eq_zero_or_pos k with hk0 | hkp
    · subst hk0
      rw [fillK_new hx (fillK_first hx hb)]
      refine ⟨rfl, ?_⟩
      have e0 : (ts.take 0).sum = 0 := rfl
      simp only
      omega
    · obtain ⟨h1, h2⟩ := ih (by omega) hkp
      rw [fillK_old hx (by omega : t ≤ (fillK W ts k).2)]
      refine ⟨h1, ?_⟩
      simp only
      omega

theorem shelves_one {bs : List (Int × Int)} {W : Int} (h : goodK bs = true) (hW : (ths bs).sum ≤ W) : shelvesOf bs W = 1 := by
  obtain ⟨h1, h2, h3⟩ := goodK_at h
  exact (fillK_all (ts := ths bs) (fun t ht => by
    obtain ⟨b, hb, rfl⟩ := List.mem_map.1 ht
    exact (h3 b hb).1) hW bs.length (by rw [ths_length]; exact Nat.le_refl _) h1).1

/-- How much more than the thickest book is looked at. -/
def moreOf (bs : List (Int × Int)) : Nat := ((ths bs).sum - mostOf (ths bs)).toNat
/-- The least width for so many shelves. -/
def leastW (bs : List (Int × Int)) (s : Int) : Int := mostOf (ths bs) + ((((List.range (moreOf bs + 1)).find? fun i => decide ((shelvesOf bs (mostOf (ths bs) + (i : Nat)) : Int) ≤ s)).getD 0 : Nat) : Int)

theorem leastW_eq {bs : List (Int × Int)} {s : Int} {i : Nat} (hi : i ≤ moreOf bs) (h1 : (shelvesOf bs (mostOf (ths bs) + (i : Nat)) : Int) ≤ s) (h2 : ∀ j : Nat, j < i → s < (shelvesOf bs (mostOf (ths bs) + (j : Nat)) : Int)) :
    leastW bs s = mostOf (ths bs) + (i : Nat) := by
  have : (List.range (moreOf bs + 1)).find? (fun i => decide ((shelvesOf bs (mostOf (ths bs) + (i : Nat)) : Int) ≤ s)) = some i := by
    rw [List.find?_range_eq_some]
    refine ⟨by simpa using h1, by simp; omega, fun j hj => ?_⟩
    have := h2 j hj
    simp
    omega
  unfold leastW
  rw [this]
  rfl

theorem good_sum {bs : List (Int × Int)} (h : goodK bs = true) : 1 ≤ mostOf (ths bs) ∧ mostOf (ths bs) ≤ (ths bs).sum ∧ (ths bs).sum ≤ 1200 := by
  obtain ⟨h1, h2, h3⟩ := goodK_at h
  have hb := sum_bds (ths bs) (fun x hx => by
    obtain ⟨b, hb, rfl⟩ := List.mem_map.1 hx
    have := h3 b hb
    omega)
  rw [ths_length] at hb
  have hx0 : (ths bs)[0]? = some ((bs[0]'(by omega)).1) := ths_at (List.getElem?_eq_getElem (by omega))
  have hm0 := le_foldl_max (a := 0) (List.mem_of_getElem? hx0)
  have hb0 := h3 (bs[0]'(by omega)) (List.getElem_mem _)
  have hge : mostOf (ths bs) ≤ (ths bs).sum := by
    have : ∀ ys : List Int, (∀ y ∈ ys, 1 ≤ y) → mostOf ys ≤ ys.sum := by
      intro ys hy
      have hpos : ∀ zs : List Int, (∀ y ∈ zs, 1 ≤ y) → 0 ≤ zs.sum ∧ ∀ z ∈ zs, z ≤ zs.sum := by
        intro zs
        induction zs with
        | nil => intro _; simp
        | cons z zs ih =>
          intro hz
          have g1 := hz z List.mem_cons_self
          have g2 := ih (fun y h => hz y (List.mem_cons_of_mem _ h))
          simp only [List.sum_cons]
          refine ⟨by omega, fun y h => ?_⟩
          rcases List.mem_cons.1 h with rfl | h
          · omega
          · have := g2.2 y h; omega
      exact foldl_max_le (fun y h => (hpos ys hy).2 y h) (hpos ys hy).1
    exact this _ (fun y hy => by
      obtain ⟨b, hb, rfl⟩ := List.mem_map.1 hy
      exact (h3 b hb).1)
  refine ⟨?_, hge, by omega⟩
  show 1 ≤ (ths bs).foldl max 0
  omega

theorem good_fill {bs : List (Int × Int)} (h : goodK bs = true) {W : Int} (hW : mostOf (ths bs) ≤ W) (hW2 : W ≤ 1000000) : FillOk bs W := by
  obtain ⟨h1, h2, h3⟩ := goodK_at h
  exact ⟨h2, h1, hW2, fun b hb => ⟨(h3 b hb).1, Int.le_trans (le_foldl_max (List.mem_map.2 ⟨b, hb, rfl⟩)) hW⟩⟩

set_option maxHeartbeats 2000000 in
theorem spec_LeastWidth (A : Option Addr) (n c : Nat) (bs : List (Int × Int)) (s : Int) (lo hi : Nat) (w : World) (hn : bs.length = n) (hlen : n ≤ 1048576)
    (hs : Seg w lo hi A (flat bs)) (hB : hi ≤ w.heap.size) (q : Bool) (hq : goodK bs = q) (r : Bool) (hr : inB s 1 12 = r) :
    Calls Try.prog 28 #[.slice A n c, .int .i64 s] w (RetI (numL (q && r) (leastW bs s)) (q && r) w) := by
  have HN := Lib.hid hn
  have HQ := Lib.hid hq
  cases q
  · clear hn hq
    go_enter Try.func28, Try.ntmps28
    go_wp2_with fail
    refine (shGood_any _ _ _ bs lo hi _ HN.out hlen hs hB _ HQ.out).mono ?_
    rintro e w1 ⟨rfl, hb1⟩
    go_wp2
    go_ret2
    exact ⟨rfl, hb1⟩
  · cases r
    · clear hn hq
      go_enter Try.func28, Try.ntmps28
      go_wp2_with fail
      refine (shGood_any _ _ _ bs lo hi _ HN.out hlen hs hB _ HQ.out).mono ?_
      rintro e w1 ⟨rfl, hb1⟩
      go_wp2_with fail
      refine (l1In_any _ _ _ false hr _).mono ?_
      rintro e w2 ⟨rfl, rfl⟩
      go_wp2
      go_ret2
      exact ⟨rfl, hb1⟩
    · obtain ⟨g1, g2, g3⟩ := good_sum hq
      have hone := shelves_one hq (Int.le_refl _)
      have HFO := Lib.hid (fun (W : Int) (h1 : mostOf (ths bs) ≤ W) (h2 : W ≤ 1000000) => good_fill hq h1 h2)
      have HLW := Lib.hid (fun (i : Nat) hi h1 h2 => leastW_eq (bs := bs) (s := s) (i := i) hi h1 h2)
      have hp := Lib.hid (goodK_part hq)
      have hs12 := inB_true.1 hr
      have hmore : (moreOf bs : Int) = (ths bs).sum - mostOf (ths bs) := by unfold moreOf; omega
      obtain ⟨N, hN⟩ : ∃ N, moreOf bs = N := ⟨_, rfl⟩
      obtain ⟨T, hT⟩ : ∃ T, mostOf (ths bs) = T := ⟨_, rfl⟩
      obtain ⟨Z, hZ⟩ : ∃ Z, (ths bs).sum = Z := ⟨_, rfl⟩
      rw [hN, hT, hZ] at hmore
      rw [hT] at g1 g2 HFO HLW
      rw [hZ] at g2 g3 hone
      rw [hN] at HLW
      have HT := Lib.hid hT
      have HONE := Lib.hid hone
      clear hn hq hN hT hZ hone
      go_enter Try.func28, Try.ntmps28
      go_wp2_with fail
      refine (shGood_any _ _ _ bs lo hi _ HN.out hlen hs hB _ HQ.out).mono ?_
      rintro e w1 ⟨rfl, hb1⟩
      go_wp2_with fail
      refine (l1In_any _ _ _ true hr _).mono ?_
      rintro e w2 ⟨rfl, rfl⟩
      go_wp2_with fail
      refine (shThick_any _ _ _ bs lo hi _ HN.out (hs.below hb1 hB) (Nat.le_trans hB hb1.size) hp.out).mono ?_
      rintro e w2 ⟨rfl, hb2⟩
      have hbb := hb1.trans (hb2.mono hb1.size)
      rw [HT.out]
      obtain ⟨u1, hu1⟩ : ∃ u, (ths bs).sum = u := ⟨_, rfl⟩
      obtain ⟨u2, hu2⟩ : ∃ u, mostOf (tls bs) = u := ⟨_, rfl⟩
      rw [hu1, hu2]
      clear hu1 hu2
      go_wp2
      go_loopw [7] (fun v wr => ∃ i : Nat, i ≤ N ∧ v = .int .i64 (T + (i : Int)) ∧ Below w.heap.size w wr ∧ ∀ j : Nat, j < i → s < (shelvesOf bs (T + (j : Nat)) : Int)) (fun v _ => N + 1 - ((intOf v) - T).toNat)
      case atStart => exact ⟨0, Nat.zero_le _, by simp, hbb, fun j hj => by omega⟩
      case round =>
        obtain ⟨i, hiN, rfl, hb, hj⟩ := hrel
        have HJ := Lib.hid hj
        clear hj
        go_wp2_with fail
        refine (shFill_any _ _ _ bs (T + (i : Int)) lo hi _ HN.out (hs.below hb hB) (Nat.le_trans hB hb.size) (HFO.out _ (by omega) (by omega))).mono ?_
        rintro e w3 ⟨A3, n3, c3, rfl, hn3, hown, hb3⟩
        have hbb3 := hb.trans (hb3.mono hb.size)
        have hn3' : shelvesOf bs (T + (i : Int)) = n3 := hn3
        have hle12 := fillL_len (HFO.out (T + (i : Int)) (by omega) (by omega))
        rw [hn3] at hle12
        have HN3 := Lib.hid hn3'
        have hend : i = N → n3 = 1 := by
          rintro rfl
          rw [← HN3.out, show T + (i : Int) = Z by omega]
          exact HONE.out
        clear hn3 hn3' hown
        by_cases hgt : s < (n3 : Int)
        · have hlt : i < N := by
            rcases Nat.lt_or_ge i N with h | h
            · exact h
            · have := hend (by omega); omega
          clear hend
          go_wp2
          go_roundw
          case rel => exact ⟨i + 1, hlt, by congr 1; omega, hbb3, fun j hj => by
            by_cases e : j = i
            · subst e; rw [HN3.out]; exact hgt
            · exact HJ.out j (by omega)⟩
          case measure => simp [intOf]; omega
        · have hle : (n3 : Int) ≤ s := by omega
          have hv := HLW.out i hiN (by rw [HN3.out]; exact hle) HJ.out
          have HV := Lib.hid hv
          clear hend hv
          go_wp2
          go_ret2
          exact ⟨by rw [HV.out]; rfl, hbb3⟩

/-- What is searched for. -/
def enoughB (bs : List (Int × Int)) (T s : Int) (h : Nat) : Bool := decide ((shelvesOf bs (T + (h : Int)) : Int) ≤ s)

set_option maxHeartbeats 2000000 in
theorem leastFn_any (A : Option Addr) (n c : Nat) (bs : List (Int × Int)) (T s : Int) (h : Nat) (lo hi B2 B6 B3 : Nat) (w : World) (hn : bs.length = n) (hs : Seg w lo hi A (flat bs)) (hB : hi ≤ w.heap.size) (hT : 0 ≤ T) (hh : T + (h : Int) ≤ 1000000) (hf : FillOk bs (T + (h : Int)))
    (k2 : w.cell? ⟨B2, 0, none⟩ = some (.slice A n c)) (k6 : w.cell? ⟨B6, 0, none⟩ = some (.int .i64 T)) (k3 : w.cell? ⟨B3, 0, none⟩ = some (.int .i64 s)) :
    Calls Try.prog 55 #[.int .i64 (h : Int), .pointer (some ⟨B2, 0, none⟩), .pointer (some ⟨B6, 0, none⟩), .pointer (some ⟨B3, 0, none⟩)] w fun e w' => e = .returned (.bool (enoughB bs T s h)) ∧ Below w.heap.size w w' := by
  have HN := Lib.hid hn
  have HG := Lib.hid hf
  have hb0 : Below w.heap.size w w.drew := (Below.refl _ _).drew
  have hwr : IntKind.i64.wrap (T + (h : Int)) = T + (h : Int) := by
    rw [IntKind.wrap_i64]
    omega
  clear hn hf
  go_enter Try.func55, Try.ntmps55
  go_upto_region 1 with (fail)
  refine wp_region_held_drew (S := (fun wq => wq.cell? ⟨B2, 0, none⟩ = some (.slice A n c) ∧ wq.cell? ⟨B6, 0, none⟩ = some (.int .i64 T) ∧ wq.cell? ⟨B3, 0, none⟩ = some (.int .i64 s))) (by kernel_rfl) ⟨k2, k6, k3⟩ (fun hH0 => ?_)
  refine wpAnyH_take (i := 0) (v := ?_) (ops_at rfl) (by kernel_rfl) (by kernel_rfl) (by kernel_rfl) (fun _ _ _ h => h) (Or.inl ⟨by rfl, ?yr0⟩) (by assumption) ?nr0
  case yr0 => (intro wS hSw; (try dsimp only at hSw); go_simp; try rfl)
  try simp only [Act.put, List.setIfInBounds_toArray, List.set_cons_zero, List.set_cons_succ]
  refine wpAnyH_take (i := 1) (v := ?_) (ops_at rfl) (by kernel_rfl) (by kernel_rfl) (by kernel_rfl) (fun _ _ _ h => h) (Or.inl ⟨by rfl, ?yr1⟩) (by assumption) ?nr1
  case yr1 => (intro wS hSw; (try dsimp only at hSw); go_simp; try rfl)
  try simp only [Act.put, List.setIfInBounds_toArray, List.set_cons_zero, List.set_cons_succ]
  refine wpAnyH_take (i := 2) (v := ?_) (ops_at rfl) (by kernel_rfl) (by kernel_rfl) (by kernel_rfl) (fun _ _ _ h => h) (Or.inl ⟨by rfl, ?yr2⟩) (by assumption) ?nr2
  case yr2 => (intro wS hSw; (try dsimp only at hSw); go_simp; try rfl)
  try simp only [Act.put, List.setIfInBounds_toArray, List.set_cons_zero, List.set_cons_succ]
  refine wpAnyH_take (i := 3) (v := ?_) (ops_at rfl) (by kernel_rfl) (by kernel_rfl) (by kernel_rfl) (fun _ _ _ h => h) (Or.inl ⟨by rfl, ?yr3⟩) (by assumption) ?nr3
  case yr3 => (intro wS hSw; (try dsimp only at hSw); go_simp; try rfl)
  try simp only [Act.put, List.setIfInBounds_toArray, List.set_cons_zero, List.set_cons_succ]
  refine wpAnyH_take (i := 6) (v := ?_) (ops_at rfl) (by kernel_rfl) (by kernel_rfl) (by kernel_rfl) (fun _ _ _ h => h) (Or.inl ⟨by rfl, ?yr6⟩) (by assumption) ?nr6
  case yr6 => (intro wS hSw; (try dsimp only at hSw); go_simp; try rfl)
  try simp only [Act.put, List.setIfInBounds_toArray, List.set_cons_zero, List.set_cons_succ]
  refine wpAnyH_ready (rs := [4]) (by kernel_rfl) (by simp) ?_
  refine AllReadyH.cons (ops_at rfl) (fun K hK => ?_) AllReadyH.nil
  go_simp
  refine (fillShelves_any _ _ _ bs (T + (h : Int)) lo hi _ HN.out (hs.below hb0 hB) (Nat.le_trans hB hb0.size) HG.out).mono ?_
  rintro e w3 ⟨v0, v1, v2, v3, v4, v5, v6, v7, v8, v9, v10, v11, v12, rfl, hsl, hb3⟩
  have h0 : ((fillL bs (T + (h : Int))).length : Int) = v0 := by
    have : (shL (fillL bs (T + (h : Int))))[0]? = some v0 := by rw [hsl]; rfl
    rw [shL_zero] at this
    injection this
  have H0 := Lib.hid h0
  clear hsl h0
  have hfd : ∀ W, (Instr.field 51 (.agg #[.int .i64 v0, .int .i64 v1, .int .i64 v2, .int .i64 v3, .int .i64 v4, .int .i64 v5, .int .i64 v6, .int .i64 v7, .int .i64 v8, .int .i64 v9, .int .i64 v10, .int .i64 v11, .int .i64 v12]) 0).run Try.prog W = .ok (.int .i64 v0) W := fun _ => by kernel_rfl
  refine hK.out _ _ ⟨(hb3.cell (by have := cell_lt k2; exact this)).trans k2, (hb3.cell (by have := cell_lt k6; exact this)).trans k6, (hb3.cell (by have := cell_lt k3; exact this)).trans k3⟩ (fun hHr4 => ?_)
  clear hK K
  refine wpAnyH_take (i := 5) (v := ?_) (ops_at rfl) (by kernel_rfl) (by kernel_rfl) (by kernel_rfl) (fun _ _ _ h => h) (Or.inl ⟨by rfl, ?yr5⟩) (by assumption) ?nr5
  case yr5 => (intro wS hSw; (try dsimp only at hSw); go_simp; try rfl)
  try simp only [Act.put, List.setIfInBounds_toArray, List.set_cons_zero, List.set_cons_succ]
  refine wpAnyH_take (i := 7) (v := ?_) (ops_at rfl) (by kernel_rfl) (by kernel_rfl) (by kernel_rfl) (fun _ _ _ h => h) (Or.inl ⟨by rfl, ?yr7⟩) (by assumption) ?nr7
  case yr7 => (intro wS hSw; (try dsimp only at hSw); go_simp; try rfl)
  try simp only [Act.put, List.setIfInBounds_toArray, List.set_cons_zero, List.set_cons_succ]
  refine wpAnyH_take (i := 8) (v := ?_) (ops_at rfl) (by kernel_rfl) (by kernel_rfl) (by kernel_rfl) (fun _ _ _ h => h) (Or.inl ⟨by rfl, ?yr8⟩) (by assumption) ?nr8
  case yr8 => (intro wS hSw; (try dsimp only at hSw); go_simp; try rfl)
  try simp only [Act.put, List.setIfInBounds_toArray, List.set_cons_zero, List.set_cons_succ]
  refine wpAnyH_done (by kernel_rfl) ?_ _
  have hbb := hb0.trans (hb3.mono hb0.size)
  go_wp2
  go_ret
  exact ⟨by unfold enoughB shelvesOf; rw [H0.out]; rfl, hbb⟩

theorem enough_mono {bs : List (Int × Int)} {T s : Int} (hg : goodK bs = true) (hT : mostOf (ths bs) = T) {x y : Nat} (hxy : x ≤ y) (hy : T + (y : Int) ≤ 1000000) (h : enoughB bs T s x = true) : enoughB bs T s y = true := by
  unfold enoughB at h ⊢
  rw [decide_eq_true_iff] at h ⊢
  have := shelves_mono (bs := bs) (W := T + (x : Int)) (W' := T + (y : Int)) (good_fill hg (by omega) (by omega)) (by omega)
  omega

set_option maxHeartbeats 2000000 in
theorem search_any (A : Option Addr) (n c N : Nat) (bs : List (Int × Int)) (T s : Int) (lo hi B2 B6 B3 : Nat) (w : World) (hn : bs.length = n) (hs : Seg w lo hi A (flat bs)) (hB : hi ≤ w.heap.size) (hg : goodK bs = true) (hT : mostOf (ths bs) = T) (hN : N ≤ 1200)
    (k2 : w.cell? ⟨B2, 0, none⟩ = some (.slice A n c)) (k6 : w.cell? ⟨B6, 0, none⟩ = some (.int .i64 T)) (k3 : w.cell? ⟨B3, 0, none⟩ = some (.int .i64 s)) :
    Calls Try.prog 53 #[.int .i64 (N : Int), .func (.func 55) #[] #[.pointer (some ⟨B2, 0, none⟩), .pointer (some ⟨B6, 0, none⟩), .pointer (some ⟨B3, 0, none⟩)]] w fun e w' =>
      ∃ i : Nat, e = .returned (.int .i64 (i : Int)) ∧ i ≤ N ∧ (∀ j, j < i → enoughB bs T s j = false) ∧ (i < N → enoughB bs T s i = true) ∧ Below w.heap.size w w' := by
  obtain ⟨g1, g2, g3⟩ := good_sum hg
  rw [hT] at g1 g2
  have HN := Lib.hid hn
  have HF := Lib.hid (fun (W : Int) (h1 : T ≤ W) (h2 : W ≤ 1000000) => good_fill hg (by rw [hT]; exact h1) h2)
  have HM := Lib.hid (fun (x y : Nat) (hxy : x ≤ y) (hy : T + (y : Int) ≤ 1000000) h => enough_mono (s := s) hg hT hxy hy h)
  clear hn hg hT
  go_enter Try.func53, Try.ntmps53
  go_wp2
  go_loopw [5, 6, 7] (fun a b _ wr => ∃ i j : Nat, i ≤ j ∧ j ≤ N ∧ a = .int .i64 (i : Int) ∧ b = .int .i64 (j : Int) ∧ (∀ x, x < i → enoughB bs T s x = false) ∧ (j < N → enoughB bs T s j = true) ∧ Below w.heap.size w wr) (fun a b _ _ => (intOf b - intOf a).toNat)
  case atStart => exact ⟨0, N, Nat.zero_le _, Nat.le_refl _, rfl, rfl, fun x hx => by omega, fun h => by omega, Below.refl _ _⟩
  case round =>
    obtain ⟨i, j, hij, hjN, rfl, rfl, hlo, hup, hb⟩ := hrel
    have HLO := Lib.hid hlo
    have HUP := Lib.hid hup
    clear hlo hup
    by_cases hlt : i < j
    · obtain ⟨h, hh, hih, hhj⟩ : ∃ h : Nat, ((i : Int) + (j : Int)) / 2 = (h : Int) ∧ i ≤ h ∧ h < j := ⟨(i + j) / 2, by omega, by omega, by omega⟩
      have HH := Lib.hid hh
      clear hh
      have k2' := (hb.cell (by have := cell_lt k2; exact this)).trans k2
      have k6' := (hb.cell (by have := cell_lt k6; exact this)).trans k6
      have k3' := (hb.cell (by have := cell_lt k3; exact this)).trans k3
      have hcl := leastFn_any A n c bs T s h lo hi B2 B6 B3 wr HN.out (hs.below hb hB) (Nat.le_trans hB hb.size) (by omega) (by omega) (HF.out _ (by omega) (by omega)) k2' k6' k3'
      have HC := Lib.hid hcl
      clear hcl k2' k6' k3'
      go_wp2_with fail
      rw [HH.out]
      refine HC.out.mono ?_
      rintro e w1 ⟨rfl, hb1⟩
      have hbb := hb.trans (hb1.mono hb.size)
      obtain ⟨b, hbv⟩ : ∃ b, enoughB bs T s h = b := ⟨_, rfl⟩
      have HB := Lib.hid hbv
      rw [hbv]
      clear hbv
      cases b
      case true =>
        go_wp2
        go_roundw
        case rel => exact ⟨i, h, hih, by omega, rfl, rfl, HLO.out, fun _ => HB.out, hbb⟩
        case measure => simp [intOf]; omega
      case false =>
        go_wp2
        go_roundw
        case rel => exact ⟨h + 1, j, by omega, hjN, by go_num, rfl, fun x hx => by
          by_cases hxe : enoughB bs T s x = true
          · have := HM.out x h (by omega) (by omega) hxe
            rw [HB.out] at this; cases this
          · simpa using hxe, HUP.out, hbb⟩
        case measure => simp [intOf]; omega
    · obtain rfl : i = j := by omega
      go_wp2
      go_ret
      exact ⟨i, rfl, hjN, HLO.out, HUP.out, hb⟩

set_option maxHeartbeats 4000000 in
theorem impl_LeastWidth (A : Option Addr) (n c : Nat) (bs : List (Int × Int)) (s : Int) (lo hi : Nat) (w : World) (hn : bs.length = n) (hlen : n ≤ 1048576)
    (hs : Seg w lo hi A (flat bs)) (hB : hi ≤ w.heap.size) (q : Bool) (hq : goodK bs = q) (r : Bool) (hr : inB s 1 12 = r) :
    Calls Try.prog 29 #[.slice A n c, .int .i64 s] w (RetI (numL (q && r) (leastW bs s)) (q && r) w) := by
  have HN := Lib.hid hn
  have HQ := Lib.hid hq
  have hba : Below w.heap.size w ((w.alloc (.cells #[.slice A n c] 27)).alloc (.cells #[.int .i64 s] 3)) := ((Below.refl _ _).alloc (Nat.le_refl _) _).alloc (by simp) _
  have hsa := hs.below hba hB
  have hBa := Nat.le_trans hB hba.size
  have hc2 : ((w.alloc (.cells #[.slice A n c] 27)).alloc (.cells #[.int .i64 s] 3)).heap[w.heap.size]? = some (.cells #[.slice A n c] 27 (0, 0)) := (alloc_old _ (by simp) _).trans (new_at _ _ rfl)
  have hc3 : ((w.alloc (.cells #[.slice A n c] 27)).alloc (.cells #[.int .i64 s] 3)).heap[w.heap.size + 1]? = some (.cells #[.int .i64 s] 3 (0, 0)) := new_at _ _ (by simp)
  have HC2 := Lib.hid hc2
  have HC3 := Lib.hid hc3
  have HSA := Lib.hid hsa
  have HBA := Lib.hid hba
  have HLE := Lib.hid hBa
  clear hsa hc2 hc3 hba hBa
  cases q
  · clear hn hq
    go_enter Try.func29, Try.ntmps29
    go_wp2_with fail
    refine (areBooks_any _ _ _ bs lo hi _ HN.out hlen HSA.out HLE.out _ HQ.out).mono ?_
    rintro e w1 ⟨rfl, hb1⟩
    go_wp2
    go_ret2
    exact ⟨rfl, HBA.out.trans (hb1.mono HBA.out.size)⟩
  · cases r
    · rw [inB_false] at hr
      clear hn hq
      by_cases hlow : s < 1
      · clear hr
        go_enter Try.func29, Try.ntmps29
        go_wp2_with fail
        refine (areBooks_any _ _ _ bs lo hi _ HN.out hlen HSA.out HLE.out _ HQ.out).mono ?_
        rintro e w1 ⟨rfl, hb1⟩
        have z3 := cell_of ((hb1.block _ (heap_lt HC3.out)).trans HC3.out) 0
        simp at z3
        go_wp2
        go_ret2
        exact ⟨rfl, HBA.out.trans (hb1.mono HBA.out.size)⟩
      · have hhigh : 12 < s := by omega
        clear hr
        go_enter Try.func29, Try.ntmps29
        go_wp2_with fail
        refine (areBooks_any _ _ _ bs lo hi _ HN.out hlen HSA.out HLE.out _ HQ.out).mono ?_
        rintro e w1 ⟨rfl, hb1⟩
        have z3 := cell_of ((hb1.block _ (heap_lt HC3.out)).trans HC3.out) 0
        simp at z3
        go_wp2
        go_ret2
        exact ⟨rfl, HBA.out.trans (hb1.mono HBA.out.size)⟩
    · obtain ⟨hs1, hs12⟩ := inB_true.1 hr
      obtain ⟨g1, g2, g3⟩ := good_sum hq
      have hone := shelves_one hq (Int.le_refl _)
      have HP := Lib.hid (goodK_part hq)
      have HLW := Lib.hid (fun (i : Nat) hi h1 h2 => leastW_eq (bs := bs) (s := s) (i := i) hi h1 h2)
      have hmore : (moreOf bs : Int) = (ths bs).sum - mostOf (ths bs) := by unfold moreOf; omega
      obtain ⟨N, hNN⟩ : ∃ N, moreOf bs = N := ⟨_, rfl⟩
      obtain ⟨T, hT⟩ : ∃ T, mostOf (ths bs) = T := ⟨_, rfl⟩
      obtain ⟨Z, hZ⟩ : ∃ Z, (ths bs).sum = Z := ⟨_, rfl⟩
      rw [hNN, hT, hZ] at hmore
      rw [hT] at g1 g2 HLW
      rw [hZ] at g2 g3 hone
      rw [hNN] at HLW
      have HT := Lib.hid hT
      have HZ := Lib.hid hZ
      have HONE := Lib.hid hone
      have hwr : IntKind.i64.wrap (Z - T) = (N : Int) := by
        rw [← hmore, IntKind.wrap_i64]
        omega
      have hmf : ∀ (fn : Fn) (first cap : Array Value) (w : World), (Instr.makeFunc fn first cap).run Try.prog w = .ok (.func fn first cap) w := fun _ _ _ _ => rfl
      have HMO := Lib.hid hmore
      clear hn hq hr hNN hT hZ hone hmore
      go_enter Try.func29, Try.ntmps29
      go_wp2_with fail
      refine (areBooks_any _ _ _ bs lo hi _ HN.out hlen HSA.out HLE.out _ HQ.out).mono ?_
      rintro e w1 ⟨rfl, hb1⟩
      have hbw1 := HBA.out.trans (hb1.mono HBA.out.size)
      have hx3 := (hb1.block _ (heap_lt HC3.out)).trans HC3.out
      have hx2 := (hb1.block _ (heap_lt HC2.out)).trans HC2.out
      have z3 := cell_of hx3 0
      have z2 := cell_of hx2 0
      simp at z3 z2
      have HX3 := Lib.hid hx3
      have HX2 := Lib.hid hx2
      clear hx3 hx2
      go_wp2_with fail
      refine (thickestOf_any _ _ _ bs lo hi _ HN.out (hs.below hbw1 hB) (Nat.le_trans hB hbw1.size) HP.out).mono ?_
      rintro e w2 ⟨rfl, hb2⟩
      rw [HT.out]
      clear z3 z2
      have hbw2 := hbw1.trans (hb2.mono hbw1.size)
      have hbz : Below w.heap.size w (w2.alloc (.cells #[.int .i64 T] 3)).drew := (hbw2.alloc hbw2.size _).drew
      obtain ⟨g6, hg6⟩ : ∃ g6, g6 = w2.heap.size := ⟨_, rfl⟩
      have z3 := cell_of ((alloc_old w2 (heap_lt ((hb2.block _ (heap_lt HX3.out)).trans HX3.out)) (.cells #[.int .i64 T] 3)).trans ((hb2.block _ (heap_lt HX3.out)).trans HX3.out)) 0
      have z2 := cell_of ((alloc_old w2 (heap_lt ((hb2.block _ (heap_lt HX2.out)).trans HX2.out)) (.cells #[.int .i64 T] 3)).trans ((hb2.block _ (heap_lt HX2.out)).trans HX2.out)) 0
      have z6 := cell_of (new_at w2 (.cells #[.int .i64 T] 3) hg6) 0
      simp at z3 z2 z6
      go_upto_region 4 with (fail)
      rw [← hg6]
      have HG6 := Lib.hid hg6
      clear hg6
      refine wp_region_held_drew (S := (fun wq => wq.cell? ⟨w.heap.size, 0, none⟩ = some (.slice A n c) ∧ wq.cell? ⟨w.heap.size + 1, 0, none⟩ = some (.int .i64 s) ∧ wq.cell? ⟨g6, 0, none⟩ = some (.int .i64 T) ∧ Below w.heap.size w wq)) (by kernel_rfl) ⟨z2, z3, z6, hbz⟩ (fun hH0 => ?_)
      refine wpAnyH_take (i := 0) (v := ?_) (ops_at rfl) (by kernel_rfl) (by kernel_rfl) (by kernel_rfl) (fun _ _ _ h => h) (Or.inl ⟨by rfl, ?yr0⟩) (by assumption) ?nr0
      case yr0 => (intro wS hSw; (try dsimp only at hSw); go_simp; try rfl)
      try simp only [Act.put, List.setIfInBounds_toArray, List.set_cons_zero, List.set_cons_succ]
      refine wpAnyH_take (i := 2) (v := ?_) (ops_at rfl) (by kernel_rfl) (by kernel_rfl) (by kernel_rfl) (fun _ _ _ h => h) (Or.inl ⟨by rfl, ?yr2⟩) (by assumption) ?nr2
      case yr2 => (intro wS hSw; (try dsimp only at hSw); go_simp; try rfl)
      try simp only [Act.put, List.setIfInBounds_toArray, List.set_cons_zero, List.set_cons_succ]
      refine wpAnyH_take (i := 4) (v := ?_) (ops_at rfl) (by kernel_rfl) (by kernel_rfl) (by kernel_rfl) (fun _ _ _ h => h) (Or.inl ⟨by rfl, ?yr4⟩) (by assumption) ?nr4
      case yr4 => (intro wS hSw; (try dsimp only at hSw); go_simp; try rfl)
      try simp only [Act.put, List.setIfInBounds_toArray, List.set_cons_zero, List.set_cons_succ]
      refine wpAnyH_ready (rs := [1]) (by kernel_rfl) (by simp) ?_
      refine AllReadyH.cons (ops_at rfl) (fun K hK => ?_) AllReadyH.nil
      go_simp
      refine (thicknessOf_any _ _ _ bs lo hi _ HN.out (hs.below hH0.2.2.2 hB) (Nat.le_trans hB hH0.2.2.2.size) HP.out).mono ?_
      rintro e w5 ⟨rfl, hb5⟩
      rw [HZ.out]
      refine hK.out _ _ ⟨(hb5.cell (by have := cell_lt hH0.1; exact this)).trans hH0.1, (hb5.cell (by have := cell_lt hH0.2.1; exact this)).trans hH0.2.1, (hb5.cell (by have := cell_lt hH0.2.2.1; exact this)).trans hH0.2.2.1, hH0.2.2.2.trans (hb5.mono hH0.2.2.2.size)⟩ (fun hHr1 => ?_)
      clear hK K
      refine wpAnyH_take (i := 3) (v := ?_) (ops_at rfl) (by kernel_rfl) (by kernel_rfl) (by kernel_rfl) (fun _ _ _ h => h) (Or.inl ⟨by rfl, ?yr3⟩) (by assumption) ?nr3
      case yr3 => (intro wS hSw; (try dsimp only at hSw); go_simp; try rfl)
      try simp only [Act.put, List.setIfInBounds_toArray, List.set_cons_zero, List.set_cons_succ]
      refine wpAnyH_ready (rs := [5]) (by kernel_rfl) (by simp) ?_
      refine AllReadyH.cons (ops_at rfl) (fun K hK => ?_) AllReadyH.nil
      go_simp
      refine (search_any A n c N bs T s lo hi w.heap.size g6 (w.heap.size + 1) _ HN.out (hs.below hHr1.2.2.2 hB) (Nat.le_trans hB hHr1.2.2.2.size) HQ.out HT.out (by have := HMO.out; omega) hHr1.1 hHr1.2.2.1 hHr1.2.1).mono ?_
      rintro e w6 ⟨i, rfl, hiN, hi1, hi2, hb6⟩
      refine hK.out _ _ ⟨(hb6.cell (by have := cell_lt hHr1.1; exact this)).trans hHr1.1, (hb6.cell (by have := cell_lt hHr1.2.1; exact this)).trans hHr1.2.1, (hb6.cell (by have := cell_lt hHr1.2.2.1; exact this)).trans hHr1.2.2.1, hHr1.2.2.2.trans (hb6.mono hHr1.2.2.2.size)⟩ (fun hHr5 => ?_)
      clear hK K
      refine wpAnyH_take (i := 6) (v := ?_) (ops_at rfl) (by kernel_rfl) (by kernel_rfl) (by kernel_rfl) (fun _ _ _ h => h) (Or.inl ⟨by rfl, ?yr6⟩) (by assumption) ?nr6
      case yr6 => (intro wS hSw; (try dsimp only at hSw); go_simp; try rfl)
      try simp only [Act.put, List.setIfInBounds_toArray, List.set_cons_zero, List.set_cons_succ]
      refine wpAnyH_done (by kernel_rfl) ?_ _
      have hmo := HMO.out
      have hz5 := HONE.out
      have hv := HLW.out i hiN (by
        rcases Nat.lt_or_ge i N with h | h
        · have := hi2 h
          unfold enoughB at this
          rw [decide_eq_true_iff] at this
          exact this
        · rw [show T + (i : Int) = Z by omega, hz5]
          omega) (fun j hj => by
        have := hi1 j hj
        unfold enoughB at this
        rw [decide_eq_false_iff_not] at this
        omega)
      have HV := Lib.hid hv
      have hfin := hHr5.2.2.2
      have z6n := hHr5.2.2.1
      clear hv hi1 hi2 hz5
      go_wp2
      go_ret2
      exact ⟨by rw [HV.out]; rfl, hfin⟩
end Go.Proofs.Ytmdeijjlcebmaaa

/-
  The written program's lists that rise, the items of a choice, sums of them, and the room beside them.
  Conditions: at most ten items; lists of at most 1048576 numbers.
-/
import Derived.Test.YtjpejhpilfjheabItmGood
import Derived.Test.YtjpejhpilfjheabEq
import Derived.Deep.RegionHeld3
namespace Go.Proofs.Ytjpejhpilfjheab
set_option linter.unusedVariables false
open Go.RowKit

set_option maxRecDepth 100000 in
set_option maxHeartbeats 1000000 in
theorem areIncreasing_any (A : Option Addr) (n c : Nat) (N : Nat) (xs : List Int) (lo hi : Nat) (w : World) (hn : xs.length = n) (hlen : n ≤ 1048576) (hN : N ≤ 10) (hs : Seg w lo hi A xs) (q : Bool) (hq : incI N xs = q) :
    Calls Try.prog 107 #[.slice A n c, .int .i64 (N : Int)] w fun e w' => e = .returned (.bool q) ∧ w = w' := by
  have HN := Lib.hid hn
  have HQ := Lib.hid hq
  clear hn hq
  go_enter Try.func107, Try.ntmps107
  go_wp2
  go_loop [5, 7, 10] (fun b _ i => ∃ k : Nat, k ≤ n ∧ i = .int .i64 k ∧ b = .int .i64 (befI xs k) ∧ ∀ (j : Nat) u, j < k → xs[j]? = some u → (0 ≤ u ∧ u < (N : Int)) ∧ befI xs j < u) (fun _ _ i => n - (intOf i).toNat)
  case atStart => exact ⟨0, Nat.zero_le _, rfl, rfl, fun j u hj => by omega⟩
  case round =>
    obtain ⟨k, hk, rfl, rfl, hall⟩ := hrel
    have hlow := incI_low (ks := xs) (n := N) (j := k) (by rw [HN.out]; exact hk) hall
    have hz := befI_zero xs
    have HA := Lib.hid hall
    clear hall
    by_cases hlt : k < n
    · obtain ⟨b, off, u, rfl, _, _, hx, hc⟩ := hs.at_ (k := k) (by rw [HN.out]; exact hlt)
      have HX := Lib.hid hx
      have HP := Lib.hid (befI_succ hx)
      have hbf : -1 ≤ befI xs k := by
        rcases hlow with h | h
        · omega
        · subst h; rw [hz]; omega
      clear hx hlow hz
      obtain ⟨bf, hbe⟩ : ∃ bf, befI xs k = bf := ⟨_, rfl⟩
      rw [hbe] at hbf ⊢
      have HBE := Lib.hid hbe
      clear hbe
      by_cases h1 : u ≤ bf
      · go_wp2
        go_ret
        exact ⟨by rw [← HQ.out, incI_not HX.out (by rw [HBE.out]; omega)]; rfl, rfl⟩
      · have hd1 : decide (u ≤ bf) = false := decide_eq_false h1
        by_cases h2 : (N : Int) ≤ u
        · go_wp2
          go_ret
          exact ⟨by rw [← HQ.out, incI_not HX.out (by omega)]; rfl, rfl⟩
        · have hd2 : decide ((N : Int) ≤ u) = false := decide_eq_false h2
          go_wp2
          go_round
          case rel =>
            refine ⟨k + 1, by omega, by go_num, by rw [HP.out], fun j v hj hv => ?_⟩
            by_cases e : j = k
            · subst e; rw [HX.out] at hv; injection hv with hv; subst hv; exact ⟨by omega, by rw [HBE.out]; omega⟩
            · exact HA.out j v (by omega) hv
          case measure => simp [intOf]; omega
    · obtain rfl : k = n := by omega
      clear hlow hz
      go_wp2
      go_ret
      refine ⟨?_, rfl⟩
      rw [← HQ.out, incI_true.2 fun j u hj => HA.out j u (by rw [← HN.out]; exact (List.getElem?_eq_some_iff.1 hj).1) hj]
      rfl

/-- The sum of a number of each item of a list. -/
def sumC (f : Int × Int × Int → Int) : List (Int × Int × Int) → Int
  | [] => 0
  | t :: ts => f t + sumC f ts
theorem sumC_append (f : Int × Int × Int → Int) (xs ys : List (Int × Int × Int)) : sumC f (xs ++ ys) = sumC f xs + sumC f ys := by
  induction xs with
  | nil => simp [sumC]
  | cons x xs ih => simp only [List.cons_append, sumC, ih]; omega
theorem sumC_next (f : Int × Int × Int → Int) {ts : List (Int × Int × Int)} {j : Nat} {u : Int × Int × Int} (h : ts[j]? = some u) : sumC f (ts.take (j + 1)) = sumC f (ts.take j) + f u := by
  rw [take_snocI h, sumC_append]; simp [sumC]
theorem sumC_bd {f : Int × Int × Int → Int} {ts : List (Int × Int × Int)} (hf : ∀ t ∈ ts, 0 ≤ f t ∧ f t ≤ 200) : 0 ≤ sumC f ts ∧ sumC f ts ≤ 200 * (ts.length : Int) := by
  induction ts with
  | nil => simp [sumC]
  | cons k ks ih =>
    have := hf k List.mem_cons_self
    have := ih (fun t ht => hf t (List.mem_cons_of_mem _ ht))
    simp only [sumC, List.length_cons]
    push_cast
    omega
theorem sumC_take_bd {f : Int × Int × Int → Int} {ts : List (Int × Int × Int)} (h10 : ts.length ≤ 10) (hf : ∀ t ∈ ts, 0 ≤ f t ∧ f t ≤ 200) (k : Nat) : 0 ≤ sumC f (ts.take k) ∧ sumC f (ts.take k) ≤ 2000 := by
  have h := sumC_bd (ts := ts.take k) (fun t ht => hf t (List.mem_of_mem_take ht))
  have h2 : (ts.take k).length ≤ 10 := by rw [List.length_take]; omega
  omega
/-- The items of a list. -/
def pickL (ts : List (Int × Int × Int)) (ks : List Int) : List (Int × Int × Int) := ks.map (itm ts)
theorem pickL_length (ts : List (Int × Int × Int)) (ks : List Int) : (pickL ts ks).length = ks.length := by simp [pickL]
theorem pickL_ok {ts : List (Int × Int × Int)} (h : OkI ts) (ks : List Int) : ∀ t ∈ pickL ts ks, itB t = true := by
  intro t ht
  obtain ⟨k, _, rfl⟩ := List.mem_map.1 ht
  exact itB_true.2 (by simpa [wI, bI, vI] using itm_bd h k)
theorem pickL_at {ts : List (Int × Int × Int)} {ks : List Int} {k j : Nat} {t : Int × Int × Int} (hk : ks[k]? = some (j : Int)) (ht : ts[j]? = some t) : (pickL ts ks)[k]? = some t := by
  simp [pickL, hk, itm_at ht]
theorem sum_pick (ts : List (Int × Int × Int)) (f : Int × Int × Int → Int) (ks : List Int) : sumC f (pickL ts ks) = sumF (fun k => f (itm ts k)) ks := by
  induction ks with
  | nil => rfl
  | cons k ks ih => simp only [pickL, List.map_cons, sumC, sumF] at *; rw [ih]
theorem pick_w (ts : List (Int × Int × Int)) (ks : List Int) : sumC (fun t => t.1) (pickL ts ks) = sumF (wI ts) ks := sum_pick ts _ ks
theorem pick_b (ts : List (Int × Int × Int)) (ks : List Int) : sumC (fun t => t.2.1) (pickL ts ks) = sumF (bI ts) ks := sum_pick ts _ ks
theorem pick_v (ts : List (Int × Int × Int)) (ks : List Int) : sumC (fun t => t.2.2) (pickL ts ks) = sumF (vI ts) ks := sum_pick ts _ ks

theorem weight_any (x y z : Int) (w : World) :
    Calls Try.prog 81 #[.agg #[.int .i64 x, .int .i64 y, .int .i64 z]] w fun e w' => e = .returned (.int .i64 x) ∧ Below w.heap.size w w' := by
  go_enter Try.func81, Try.ntmps81
  go_wp2
  go_ret
  exact ⟨rfl, (Below.refl _ _).alloc (Nat.le_refl _) _⟩

set_option maxRecDepth 100000 in
set_option maxHeartbeats 1000000 in
theorem sum_weight (A : Option Addr) (n c : Nat) (ts : List (Int × Int × Int)) (lo hi : Nat) (w : World) (hn : ts.length = n) (h10 : ts.length ≤ 10) (hok : ∀ t ∈ ts, itB t = true) (hs : Seg w lo hi A (flat3 ts)) (hB : hi ≤ w.heap.size) :
    Calls Try.prog 80 #[.slice A n c, .func (.func 81) #[] #[]] w fun e w' => e = .returned (.int .i64 (sumC (fun t => t.1) ts)) ∧ Below w.heap.size w w' := by
  have HN := Lib.hid hn
  have hn10 : n ≤ 10 := by rw [← hn]; exact h10
  have HBD := Lib.hid (sumC_take_bd (f := fun t => t.1) h10 fun t ht => by have := itB_true.1 (hok t ht); exact ⟨by omega, by omega⟩)
  have HOK := Lib.hid hok
  clear hn h10 hok
  go_enter Try.func80, Try.ntmps80
  go_wp2
  go_loopw [5, 7, 10] (fun s _ i wr => ∃ k : Nat, k ≤ n ∧ i = .int .i64 k ∧ s = .int .i64 (sumC (fun t => t.1) (ts.take k)) ∧ Below w.heap.size w wr) (fun _ _ i _ => n - (intOf i).toNat)
  case atStart => exact ⟨0, Nat.zero_le _, rfl, rfl, Below.refl _ _⟩
  case round =>
    obtain ⟨k, hk, rfl, rfl, hb⟩ := hrel
    by_cases hlt : k < n
    · obtain ⟨b, off, x, y, z, rfl, _, _, hx, hc0, hc1, hc2⟩ := (hs.below hb hB).tri (k := k) (by rw [HN.out]; exact hlt)
      have hbd := HBD.out k
      have hit := itB_true.1 (HOK.out _ (List.mem_of_getElem? hx))
      have hv0 : 0 ≤ x ∧ x ≤ 200 := by simp only [] at hit; omega
      have hsn := sumC_next (fun t => t.1) hx
      simp only [] at hsn
      obtain ⟨s0, hs0⟩ : ∃ s0, sumC (fun t => t.1) (ts.take k) = s0 := ⟨_, rfl⟩
      rw [hs0] at hbd hsn ⊢
      have HSN := Lib.hid hsn
      have hbd1 := hbd.1
      have hbd2 := hbd.2
      have hv1 := hv0.1
      have hv2 := hv0.2
      clear hx hs0 hsn hbd hit hv0
      go_wp2_with fail
      refine (weight_any x y z _).mono ?_
      rintro e w' ⟨rfl, hb2⟩
      have hb3 := (hb.alloc hb.size (.cells #[.int .i64 x, .int .i64 y, .int .i64 z] 63)).trans (hb2.mono (by have := hb.size; simp; omega))
      go_wp2
      go_roundw
      case rel => exact ⟨k + 1, by omega, by go_num, by rw [HSN.out], hb3⟩
      case measure => simp [intOf]; omega
    · obtain rfl : k = n := by omega
      have HE := Lib.hid (show ts.take k = ts by rw [← HN.out, List.take_length])
      go_wp2
      go_ret
      exact ⟨by rw [HE.out]; rfl, hb⟩

theorem bulk_any (x y z : Int) (w : World) :
    Calls Try.prog 82 #[.agg #[.int .i64 x, .int .i64 y, .int .i64 z]] w fun e w' => e = .returned (.int .i64 y) ∧ Below w.heap.size w w' := by
  go_enter Try.func82, Try.ntmps82
  go_wp2
  go_ret
  exact ⟨rfl, (Below.refl _ _).alloc (Nat.le_refl _) _⟩

set_option maxRecDepth 100000 in
set_option maxHeartbeats 1000000 in
theorem sum_bulk (A : Option Addr) (n c : Nat) (ts : List (Int × Int × Int)) (lo hi : Nat) (w : World) (hn : ts.length = n) (h10 : ts.length ≤ 10) (hok : ∀ t ∈ ts, itB t = true) (hs : Seg w lo hi A (flat3 ts)) (hB : hi ≤ w.heap.size) :
    Calls Try.prog 80 #[.slice A n c, .func (.func 82) #[] #[]] w fun e w' => e = .returned (.int .i64 (sumC (fun t => t.2.1) ts)) ∧ Below w.heap.size w w' := by
  have HN := Lib.hid hn
  have hn10 : n ≤ 10 := by rw [← hn]; exact h10
  have HBD := Lib.hid (sumC_take_bd (f := fun t => t.2.1) h10 fun t ht => by have := itB_true.1 (hok t ht); exact ⟨by omega, by omega⟩)
  have HOK := Lib.hid hok
  clear hn h10 hok
  go_enter Try.func80, Try.ntmps80
  go_wp2
  go_loopw [5, 7, 10] (fun s _ i wr => ∃ k : Nat, k ≤ n ∧ i = .int .i64 k ∧ s = .int .i64 (sumC (fun t => t.2.1) (ts.take k)) ∧ Below w.heap.size w wr) (fun _ _ i _ => n - (intOf i).toNat)
  case atStart => exact ⟨0, Nat.zero_le _, rfl, rfl, Below.refl _ _⟩
  case round =>
    obtain ⟨k, hk, rfl, rfl, hb⟩ := hrel
    by_cases hlt : k < n
    · obtain ⟨b, off, x, y, z, rfl, _, _, hx, hc0, hc1, hc2⟩ := (hs.below hb hB).tri (k := k) (by rw [HN.out]; exact hlt)
      have hbd := HBD.out k
      have hit := itB_true.1 (HOK.out _ (List.mem_of_getElem? hx))
      have hv0 : 0 ≤ y ∧ y ≤ 200 := by simp only [] at hit; omega
      have hsn := sumC_next (fun t => t.2.1) hx
      simp only [] at hsn
      obtain ⟨s0, hs0⟩ : ∃ s0, sumC (fun t => t.2.1) (ts.take k) = s0 := ⟨_, rfl⟩
      rw [hs0] at hbd hsn ⊢
      have HSN := Lib.hid hsn
      have hbd1 := hbd.1
      have hbd2 := hbd.2
      have hv1 := hv0.1
      have hv2 := hv0.2
      clear hx hs0 hsn hbd hit hv0
      go_wp2_with fail
      refine (bulk_any x y z _).mono ?_
      rintro e w' ⟨rfl, hb2⟩
      have hb3 := (hb.alloc hb.size (.cells #[.int .i64 x, .int .i64 y, .int .i64 z] 63)).trans (hb2.mono (by have := hb.size; simp; omega))
      go_wp2
      go_roundw
      case rel => exact ⟨k + 1, by omega, by go_num, by rw [HSN.out], hb3⟩
      case measure => simp [intOf]; omega
    · obtain rfl : k = n := by omega
      have HE := Lib.hid (show ts.take k = ts by rw [← HN.out, List.take_length])
      go_wp2
      go_ret
      exact ⟨by rw [HE.out]; rfl, hb⟩

theorem cellFar (w : World) {g b k j : Nat} (h : b ≠ g) (u : Value) : (w.setCell ⟨g, k, none⟩ u).cell? ⟨b, j, none⟩ = w.cell? ⟨b, j, none⟩ := World.cell?_of_block (w := w) (set_far w (p := ⟨g, k, none⟩) h u)

set_option maxRecDepth 100000 in
set_option maxHeartbeats 1000000 in
theorem picked_any (A A2 : Option Addr) (n c m c2 : Nat) (W B : Int) (ts : List (Int × Int × Int)) (ks : List Int) (lo hi lo2 hi2 : Nat) (w : World) (hn : ts.length = n) (hg : OkI ts) (hm : ks.length = m) (hst : incI ts.length ks = true)
    (hs : Seg w lo hi A (flat3 ts)) (hB : hi ≤ w.heap.size) (hs2 : Seg w lo2 hi2 A2 ks) (hB2 : hi2 ≤ w.heap.size) :
    Calls Try.prog 79 #[.agg #[.slice A n c, .int .i64 W, .int .i64 B], .slice A2 m c2] w fun e w' => ∃ A' c', e = .returned (.slice A' m c') ∧ Own w' w.heap.size w'.heap.size A' (flat3 (pickL ts ks)) ∧ Below w.heap.size w w' := by
  have hm10 : m ≤ 10 := by have := incI_len hst; have := hg.len; omega
  have hmk := make_items m (by omega)
  have HN := Lib.hid hn
  have HM := Lib.hid hm
  have HG := Lib.hid hg
  have HST := Lib.hid hst
  have HB0 := Lib.hid ((Below.refl w.heap.size w).alloc (Nat.le_refl _) (.cells #[.slice A n c, .int .i64 W, .int .i64 B] 67))
  have HC0 := Lib.hid (new_at w (.cells #[.slice A n c, .int .i64 W, .int .i64 B] 67) rfl)
  have HPL := Lib.hid (show (flat3 (pickL ts ks)).length = m * 3 by rw [flat3_length, pickL_length, hm])
  clear hn hm hg hst
  go_enter Try.func79, Try.ntmps79
  go_wp2
  clear hmk
  go_loopw [6, 7, 13] (fun _ _ i wr => ∃ k : Nat, k ≤ m ∧ i = .int .i64 k ∧ Below w.heap.size w wr ∧ wr.heap[w.heap.size]? = some (.cells #[.slice A n c, .int .i64 W, .int .i64 B] 67 (0, 0)) ∧ Part wr (w.heap.size + 1) 63 (m * 3) (k * 3) (flat3 (pickL ts ks))) (fun _ _ i _ => m - (intOf i).toNat)
  case atStart => exact ⟨0, Nat.zero_le _, rfl, (HB0.out.alloc (by simp) _), (alloc_old _ (by simp) _).trans HC0.out, by have h := item_part_new (w.alloc (.cells #[.slice A n c, .int .i64 W, .int .i64 B] 67)) 63 m (.int .i64 0) (.int .i64 0) (.int .i64 0) (flat3 (pickL ts ks)); rw [World.size_alloc] at h; rw [Nat.zero_mul]; exact h⟩
  case round =>
    obtain ⟨k, hk, rfl, hb, hl, hp⟩ := hrel
    by_cases hlt : k < m
    · obtain ⟨b, off, u, rfl, _, _, hx, hc⟩ := (hs2.below hb hB2).at_ (k := k) (by rw [HM.out]; exact hlt)
      obtain ⟨j, rfl, hj⟩ := inc_item HST.out hx
      obtain ⟨g, og, x, y, z, rfl, _, _, hxx, hc0, hc1, hc2⟩ := (hs.below hb hB).tri (k := j) hj
      have HX := Lib.hid (pickL_at hx hxx)
      have hjn : j < n := by rw [← HN.out]; exact hj
      have hl0 := cell_of hl 0
      obtain ⟨v0, hv0⟩ := hp.cell (k * 3) (by omega)
      obtain ⟨v1, hv1⟩ := hp.cell (k * 3 + 1) (by omega)
      obtain ⟨v2, hv2⟩ := hp.cell (k * 3 + 2) (by omega)
      have hf0 := hp.frozen (k * 3)
      have hf1 := hp.frozen (k * 3 + 1)
      have hf2 := hp.frozen (k * 3 + 2)
      have HL := Lib.hid hl
      clear hx hxx hl
      go_wp2
      go_roundw
      case rel => exact ⟨k + 1, by omega, by go_num, ((hb.setCell (Nat.le_succ _) _).setCell (Nat.le_succ _) _).setCell (Nat.le_succ _) _, (set_far _ (by show w.heap.size ≠ w.heap.size + 1; omega) _).trans ((set_far _ (by show w.heap.size ≠ w.heap.size + 1; omega) _).trans ((set_far _ (by show w.heap.size ≠ w.heap.size + 1; omega) _).trans HL.out)), hp.tri hlt HX.out⟩
      case measure => simp [intOf]; omega
    · obtain rfl : k = m := by omega
      have HP := Lib.hid hp
      clear hl hp
      go_wp2
      go_ret
      refine ⟨_, _, rfl, ?_, hb⟩
      have hp' : Part wr (w.heap.size + 1) 63 (k * 3) (flat3 (pickL ts ks)).length (flat3 (pickL ts ks)) := by rw [HPL.out]; exact HP.out
      exact hp'.own (Nat.le_succ _) HP.out.lt

set_option maxRecDepth 100000 in
set_option maxHeartbeats 2000000 in
theorem roomBeside_any (A A2 : Option Addr) (n c m c2 : Nat) (W B : Int) (ts : List (Int × Int × Int)) (ks : List Int) (lo hi lo2 hi2 : Nat) (w : World) (hn : ts.length = n) (hg : OkI ts) (hm : ks.length = m) (hst : incI ts.length ks = true)
    (hW : 0 ≤ W ∧ W ≤ 4000) (hBd : 0 ≤ B ∧ B ≤ 4000) (hs : Seg w lo hi A (flat3 ts)) (hB : hi ≤ w.heap.size) (hs2 : Seg w lo2 hi2 A2 ks) (hB2 : hi2 ≤ w.heap.size) :
    Calls Try.prog 50 #[.agg #[.slice A n c, .int .i64 W, .int .i64 B], .slice A2 m c2] w fun e w' => e = .returned (.agg #[.int .i64 (W - sumF (wI ts) ks), .int .i64 (B - sumF (bI ts) ks)]) ∧ Below w.heap.size w w' := by
  have HN := Lib.hid hn
  have HM := Lib.hid hm
  have HG := Lib.hid hg
  have HST := Lib.hid hst
  have hm10 : m ≤ 10 := by have := incI_len hst; have := hg.len; omega
  have HB0 := Lib.hid (((Below.refl w.heap.size w).alloc (Nat.le_refl _) (.cells #[.slice A n c, .int .i64 W, .int .i64 B] 67)).alloc (by simp) (.cells #[.int .i64 0, .int .i64 0] 41))
  have HL0 := Lib.hid ((alloc_old (w.alloc (.cells #[.slice A n c, .int .i64 W, .int .i64 B] 67)) (g := w.heap.size) (by simp) (.cells #[.int .i64 0, .int .i64 0] 41)).trans (new_at w (.cells #[.slice A n c, .int .i64 W, .int .i64 B] 67) rfl))
  have HR0 := Lib.hid (new_at (w.alloc (.cells #[.slice A n c, .int .i64 W, .int .i64 B] 67)) (.cells #[.int .i64 0, .int .i64 0] 41) (g := w.heap.size + 1) (by simp))
  have HPL := Lib.hid (show (pickL ts ks).length = m by rw [pickL_length, hm])
  have HW := Lib.hid (pick_w ts ks)
  have HBK := Lib.hid (pick_b ts ks)
  have h1 := sumF_bd (wI_f hg) ks
  have h2 := sumF_bd (bI_f hg) ks
  obtain ⟨s0, hs0⟩ : ∃ s0, sumF (wI ts) ks = s0 := ⟨_, rfl⟩
  obtain ⟨s1, hs1⟩ : ∃ s1, sumF (bI ts) ks = s1 := ⟨_, rfl⟩
  rw [hs0] at HW h1 ⊢
  rw [hs1] at HBK h2 ⊢
  rw [hm] at h1 h2
  have h1a : IntKind.i64.wrap (W - s0) = W - s0 := by rw [IntKind.wrap_i64]; omega
  have h2a : IntKind.i64.wrap (B - s1) = B - s1 := by rw [IntKind.wrap_i64]; omega
  clear hn hm hg hst hs0 hs1 h1 h2
  go_enter Try.func50, Try.ntmps50
  go_wp2_with fail
  refine (picked_any A A2 n c m c2 W B ts ks lo hi lo2 hi2 _ HN.out HG.out HM.out HST.out (hs.below HB0.out hB) (by simp; omega) (hs2.below HB0.out hB2) (by simp; omega)).mono ?_
  rintro e w1 ⟨A', c', rfl, ho, hb1⟩
  have hz1 := hb1.size
  have HZ1 := Lib.hid (show w.heap.size < w1.heap.size by simp at hz1; omega)
  have HZ2 := Lib.hid (show w.heap.size + 1 < w1.heap.size by simp at hz1; omega)
  have HB1 := Lib.hid (HB0.out.trans (hb1.mono (by simp; omega)))
  have hl1 := (hb1.block w.heap.size (by simp; omega)).trans HL0.out
  have HC1 := Lib.hid (show w1.cell? ⟨w.heap.size, 1, none⟩ = some (.int .i64 W) ∧ w1.cell? ⟨w.heap.size, 2, none⟩ = some (.int .i64 B) from ⟨cell_of hl1 1, cell_of hl1 2⟩)
  have HR1 := Lib.hid ((hb1.block (w.heap.size + 1) (by simp)).trans HR0.out)
  have HO := Lib.hid (ho.more (lo' := 0) (Nat.zero_le _) (Nat.le_refl _))
  clear ho hb1 hz1 hl1
  go_wp2_with fail
  refine wp_region_held_drew (S := (fun wq => wq.cell? ⟨w.heap.size, 1, none⟩ = some (.int .i64 W) ∧ wq.cell? ⟨w.heap.size, 2, none⟩ = some (.int .i64 B))) (by kernel_rfl) HC1.out (fun hH0 => ?_)
  refine wpAnyH_take (i := 0) (v := ?_) (ops_at rfl) (by kernel_rfl) (by kernel_rfl) (by kernel_rfl) (fun _ _ _ h => h) (Or.inl ⟨by rfl, ?yr0⟩) (by assumption) ?nr0
  case yr0 => (intro wS hSw; (try dsimp only at hSw); go_simp; try rfl)
  try simp only [Act.put, List.setIfInBounds_toArray, List.set_cons_zero, List.set_cons_succ]
  refine wpAnyH_take (i := 1) (v := ?_) (ops_at rfl) (by kernel_rfl) (by kernel_rfl) (by kernel_rfl) (fun _ _ _ h => h) (Or.inl ⟨by rfl, ?yr1⟩) (by assumption) ?nr1
  case yr1 => (intro wS hSw; (try dsimp only at hSw); go_simp; try rfl)
  try simp only [Act.put, List.setIfInBounds_toArray, List.set_cons_zero, List.set_cons_succ]
  refine wpAnyH_take (i := 2) (v := ?_) (ops_at rfl) (by kernel_rfl) (by kernel_rfl) (by kernel_rfl) (fun _ _ _ h => h) (Or.inl ⟨by rfl, ?yr2⟩) (by assumption) ?nr2
  case yr2 => (intro wS hSw; (try dsimp only at hSw); go_simp; try rfl)
  try simp only [Act.put, List.setIfInBounds_toArray, List.set_cons_zero, List.set_cons_succ]
  refine wpAnyH_take (i := 3) (v := ?_) (ops_at rfl) (by kernel_rfl) (by kernel_rfl) (by kernel_rfl) (fun _ _ _ h => h) (Or.inl ⟨by rfl, ?yr3⟩) (by assumption) ?nr3
  case yr3 => (intro wS hSw; (try dsimp only at hSw); go_simp; try rfl)
  try simp only [Act.put, List.setIfInBounds_toArray, List.set_cons_zero, List.set_cons_succ]
  refine wpAnyH_take (i := 6) (v := ?_) (ops_at rfl) (by kernel_rfl) (by kernel_rfl) (by kernel_rfl) (fun _ _ _ h => h) (Or.inl ⟨by rfl, ?yr6⟩) (by assumption) ?nr6
  case yr6 => (intro wS hSw; (try dsimp only at hSw); go_simp; try rfl)
  try simp only [Act.put, List.setIfInBounds_toArray, List.set_cons_zero, List.set_cons_succ]
  refine wpAnyH_take (i := 7) (v := ?_) (ops_at rfl) (by kernel_rfl) (by kernel_rfl) (by kernel_rfl) (fun _ _ _ h => h) (Or.inl ⟨by rfl, ?yr7⟩) (by assumption) ?nr7
  case yr7 => (intro wS hSw; (try dsimp only at hSw); go_simp; try rfl)
  try simp only [Act.put, List.setIfInBounds_toArray, List.set_cons_zero, List.set_cons_succ]
  refine wpAnyH_take (i := 8) (v := ?_) (ops_at rfl) (by kernel_rfl) (by kernel_rfl) (by kernel_rfl) (fun _ _ _ h => h) (Or.inl ⟨by rfl, ?yr8⟩) (by assumption) ?nr8
  case yr8 => (intro wS hSw; (try dsimp only at hSw); go_simp; try rfl)
  try simp only [Act.put, List.setIfInBounds_toArray, List.set_cons_zero, List.set_cons_succ]
  refine wpAnyH_take (i := 9) (v := ?_) (ops_at rfl) (by kernel_rfl) (by kernel_rfl) (by kernel_rfl) (fun _ _ _ h => h) (Or.inl ⟨by rfl, ?yr9⟩) (by assumption) ?nr9
  case yr9 => (intro wS hSw; (try dsimp only at hSw); go_simp; try rfl)
  try simp only [Act.put, List.setIfInBounds_toArray, List.set_cons_zero, List.set_cons_succ]
  refine wpAnyH_ready (rs := [4]) (by kernel_rfl) (by simp) ?_
  refine AllReadyH.cons (ops_at rfl) (fun K hK => ?_) AllReadyH.nil
  go_simp
  refine (sum_weight A' m c' (pickL ts ks) _ _ _ HPL.out (by rw [HPL.out]; exact hm10) (pickL_ok HG.out ks) (HO.out.seg.keep (w' := w1.drew) fun _ _ _ => rfl) (Nat.le_refl _)).mono ?_
  rintro e w2 ⟨rfl, hb2'⟩
  have hb2 : Below w1.heap.size w1 w2 := ⟨hb2'.os, hb2'.tape, hb2'.output, hb2'.size, hb2'.block⟩
  clear hb2'
  rw [HW.out]
  have HC2 := Lib.hid (show w2.cell? ⟨w.heap.size, 1, none⟩ = some (.int .i64 W) ∧ w2.cell? ⟨w.heap.size, 2, none⟩ = some (.int .i64 B) from ⟨(hb2.cell HZ1.out).trans HC1.out.1, (hb2.cell HZ1.out).trans HC1.out.2⟩)
  have HR2 := Lib.hid ((hb2.block _ HZ2.out).trans HR1.out)
  have HB2 := Lib.hid (HB1.out.trans (hb2.mono HB1.out.size))
  have HO2 := Lib.hid (HO.out.below hb2 (Nat.le_refl _))
  have hz2 := hb2.size
  clear hb2
  refine hK.out _ _ HC2.out (fun hH1 => ?_)
  clear hK K
  refine wpAnyH_take (i := 5) (v := ?_) (ops_at rfl) (by kernel_rfl) (by kernel_rfl) (by kernel_rfl) (fun _ _ _ h => h) (Or.inl ⟨by rfl, ?ys5⟩) (by assumption) ?ns5
  case ys5 => (intro wS hSw; (try dsimp only at hSw); go_simp; try rfl)
  try simp only [Act.put, List.setIfInBounds_toArray, List.set_cons_zero, List.set_cons_succ]
  refine wpAnyH_ready (rs := [10]) (by kernel_rfl) (by simp) ?_
  refine AllReadyH.cons (ops_at rfl) (fun K hK => ?_) AllReadyH.nil
  go_simp
  refine (sum_bulk A' m c' (pickL ts ks) _ _ _ HPL.out (by rw [HPL.out]; exact hm10) (pickL_ok HG.out ks) HO2.out.seg hz2).mono ?_
  rintro e w3 ⟨rfl, hb3⟩
  rw [HBK.out]
  have HC3 := Lib.hid (show w3.cell? ⟨w.heap.size, 1, none⟩ = some (.int .i64 W) ∧ w3.cell? ⟨w.heap.size, 2, none⟩ = some (.int .i64 B) from ⟨(hb3.cell (Nat.lt_of_lt_of_le HZ1.out hz2)).trans HC2.out.1, (hb3.cell (Nat.lt_of_lt_of_le HZ1.out hz2)).trans HC2.out.2⟩)
  have HR3 := Lib.hid ((hb3.block _ (Nat.lt_of_lt_of_le HZ2.out hz2)).trans HR2.out)
  have HB3 := Lib.hid (HB2.out.trans (hb3.mono HB2.out.size))
  clear hb3
  refine hK.out _ _ HC3.out (fun hH2 => ?_)
  clear hK K
  refine wpAnyH_take (i := 11) (v := ?_) (ops_at rfl) (by kernel_rfl) (by kernel_rfl) (by kernel_rfl) (fun _ _ _ h => h) (Or.inl ⟨by rfl, ?yt11⟩) (by assumption) ?nt11
  case yt11 => (intro wS hSw; (try dsimp only at hSw); go_simp; try rfl)
  try simp only [Act.put, List.setIfInBounds_toArray, List.set_cons_zero, List.set_cons_succ]
  refine wpAnyH_take (i := 12) (v := ?_) (ops_at rfl) (by kernel_rfl) (by kernel_rfl) (by kernel_rfl) (fun _ _ _ h => h) (Or.inl ⟨by rfl, ?yt12⟩) (by assumption) ?nt12
  case yt12 => (intro wS hSw; (try dsimp only at hSw); go_simp; try rfl)
  try simp only [Act.put, List.setIfInBounds_toArray, List.set_cons_zero, List.set_cons_succ]
  have hr0 := cell_of HR3.out 0
  have hr1 := cell_of HR3.out 1
  have hq0 := frozen_of HR3.out 0
  have hq1 := frozen_of HR3.out 1
  refine wpAnyH_ready (rs := [13]) (by kernel_rfl) (by simp) ?_
  refine AllReadyH.cons (ops_at rfl) (fun K hK => ?_) AllReadyH.nil
  go_simp
  refine hK.out _ _ ⟨(cellFar _ (by omega) _).trans ((cellFar _ (by omega) _).trans HC3.out.1), (cellFar _ (by omega) _).trans ((cellFar _ (by omega) _).trans HC3.out.2)⟩ (fun hH3 => ?_)
  clear hK K
  refine wpAnyH_done (by kernel_rfl) ?_ _
  clear hr0 hr1 hq0 hq1
  have HR4 := Lib.hid (set_self (set_self HR3.out 0 (.int .i64 (W - s0))) 1 (.int .i64 (B - s1)))
  have hr0 := cell_of HR4.out 0
  have hr1 := cell_of HR4.out 1
  go_wp2
  refine bodyPost_ret (v := .agg #[.int .i64 (W - s0), .int .i64 (B - s1)]) (by simp [results, Try.results50, go_sem, hr0, hr1]) rfl ⟨rfl, ?_⟩
  exact ((HB3.out.setCell (Nat.le_succ _) _).setCell (Nat.le_succ _) _)
end Go.Proofs.Ytjpejhpilfjheab

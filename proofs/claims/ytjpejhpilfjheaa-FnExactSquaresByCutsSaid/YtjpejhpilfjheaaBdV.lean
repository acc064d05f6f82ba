/-
  What boards are worth, as the written program's closures read it out of its table.
  Conditions: the boards are in the table; at most two are asked for at once.
-/
import Derived.Test.YtjpejhpilfjheaaBdC
namespace Go.Proofs.Ytjpejhpilfjheaa
set_option linter.unusedVariables false
open Go.RowKit

/-- A table of values in memory, below a bound: the box of its rows, the rows, the values. -/
def Worth (w : World) (B0 X : Nat) (t : Nat → Nat → Int) (ok : Nat → Nat → Prop) : Prop :=
  ∃ R V H N T, X < B0 ∧ R < B0 ∧ V < B0 ∧ w.heap[X]? = some (.cells #[.slice (some ⟨R, 0, none⟩) N N] T (0, 0)) ∧
    ∀ a b, ok a b → 1 ≤ a ∧ 1 ≤ b ∧ (a ≤ 24 ∧ b ≤ 24 ∧ a ≤ N) ∧ ∃ len c, w.cell? ⟨R, a - 1, none⟩ = some (.slice (some ⟨V, (a - 1) * H, none⟩) len c) ∧ b ≤ len ∧ w.cell? ⟨V, (a - 1) * H + (b - 1), none⟩ = some (.int .i64 (t a b))
theorem Worth.below {w w' : World} {B0 B X : Nat} {t : Nat → Nat → Int} {ok : Nat → Nat → Prop} (h : Worth w B0 X t ok) (hb : Below B w w') (hB : B0 ≤ B) : Worth w' B0 X t ok := by
  obtain ⟨R, V, H, N, T, h1, h2, h3, h4, h5⟩ := h
  refine ⟨R, V, H, N, T, h1, h2, h3, (hb.block X (by omega)).trans h4, fun a b hab => ?_⟩
  obtain ⟨a1, b1, ⟨a24, b24, aN⟩, len, c, e1, e2, e3⟩ := h5 a b hab
  exact ⟨a1, b1, ⟨a24, b24, aN⟩, len, c, (hb.cell (p := ⟨R, a - 1, none⟩) (by show R < B; omega)).trans e1, e2, (hb.cell (p := ⟨V, (a - 1) * H + (b - 1), none⟩) (by show V < B; omega)).trans e3⟩
theorem Worth.mono {w : World} {B0 B1 X : Nat} {t t' : Nat → Nat → Int} {ok ok' : Nat → Nat → Prop} (h : Worth w B0 X t ok) (hB : B0 ≤ B1) (hk : ∀ a b, ok' a b → ok a b ∧ t' a b = t a b) : Worth w B1 X t' ok' := by
  obtain ⟨R, V, H, N, T, h1, h2, h3, h4, h5⟩ := h
  exact ⟨R, V, H, N, T, by omega, by omega, by omega, h4, fun a b hab => by rw [(hk a b hab).2]; exact h5 a b (hk a b hab).1⟩

set_option maxRecDepth 100000 in
set_option maxHeartbeats 1000000 in
theorem one_worth (B0 X a b : Nat) (t : Nat → Nat → Int) (ok : Nat → Nat → Prop) (w : World) (hT : Worth w B0 X t ok) (hB : B0 ≤ w.heap.size) (hab : ok a b) (v : Int) (hv : t a b = v) :
    Calls Try.prog 77 #[.agg #[.int .i64 (a : Int), .int .i64 (b : Int)], .pointer (some ⟨X, 0, none⟩)] w fun e w' => e = .returned (.int .i64 v) ∧ Below w.heap.size w w' := by
  subst hv
  obtain ⟨R, V, H, N, T, h1, h2, h3, h4, h5⟩ := hT
  obtain ⟨a1, b1, ⟨a24, b24, aN⟩, len, c, e1, e2, e3⟩ := h5 a b hab
  obtain ⟨v, hv⟩ : ∃ v, t a b = v := ⟨_, rfl⟩
  rw [hv] at e3 ⊢
  have hb0 := (Below.refl w.heap.size w).alloc (Nat.le_refl _) (.cells #[.int .i64 (a : Int), .int .i64 (b : Int)] 55)
  have c0 := (hb0.cell (p := ⟨X, 0, none⟩) (by show X < w.heap.size; omega)).trans (cell_of h4 0)
  have c1 := (hb0.cell (p := ⟨R, a - 1, none⟩) (by show R < w.heap.size; omega)).trans e1
  have c2 := (hb0.cell (p := ⟨V, (a - 1) * H + (b - 1), none⟩) (by show V < w.heap.size; omega)).trans e3
  have n0 := cell_of (new_at w (.cells #[.int .i64 (a : Int), .int .i64 (b : Int)] 55) rfl) 0
  have n1 := cell_of (new_at w (.cells #[.int .i64 (a : Int), .int .i64 (b : Int)] 55) rfl) 1
  obtain ⟨p, hp⟩ : ∃ p, a - 1 = p := ⟨_, rfl⟩
  obtain ⟨q, hq⟩ : ∃ q, b - 1 = q := ⟨_, rfl⟩
  have ha' : ((a : Int) - 1) = (p : Int) := by omega
  have hb' : ((b : Int) - 1) = (q : Int) := by omega
  rw [hp] at c1 c2
  rw [hq] at c2
  have hpN : p < N := by omega
  have hp24 : p < 24 := by omega
  have hwp : IntKind.i64.wrap (p : Int) = (p : Int) := by rw [IntKind.wrap_i64]; omega
  have hwq : IntKind.i64.wrap (q : Int) = (q : Int) := by rw [IntKind.wrap_i64]; omega
  have hql : q < len := by omega
  clear hp hq
  have HB := Lib.hid hb0
  clear h5 h4 e1 e3 hv hab hb0
  obtain ⟨W, hW⟩ : ∃ W, w.alloc (.cells #[.int .i64 (a : Int), .int .i64 (b : Int)] 55) = W := ⟨_, rfl⟩
  rw [hW] at c0 c1 c2 n0 n1 HB
  go_enter Try.func77, Try.ntmps77
  go_wp2_with fail
  try rw [hW]
  clear hW
  refine wp_region_held_drew (S := (fun wq => wq.cell? ⟨X, 0, none⟩ = some (.slice (some ⟨R, 0, none⟩) N N) ∧ wq.cell? ⟨R, p, none⟩ = some (.slice (some ⟨V, p * H, none⟩) len c) ∧ wq.cell? ⟨V, p * H + q, none⟩ = some (.int .i64 v) ∧ wq.cell? ⟨w.heap.size, 0, none⟩ = some (.int .i64 (a : Int)) ∧ wq.cell? ⟨w.heap.size, 1, none⟩ = some (.int .i64 (b : Int)))) (by kernel_rfl) ⟨c0, c1, c2, n0, n1⟩ (fun hH0 => ?_)
  refine wpAnyH_take (i := 0) (v := ?_) (ops_at rfl) (by kernel_rfl) (by kernel_rfl) (by kernel_rfl) (fun _ _ _ h => h) (Or.inl ⟨by rfl, ?ya0⟩) (by assumption) ?na0
  case ya0 => (intro wS hSw; (try dsimp only at hSw); go_simp; try rfl)
  try simp only [Act.put, List.setIfInBounds_toArray, List.set_cons_zero, List.set_cons_succ]
  refine wpAnyH_take (i := 1) (v := ?_) (ops_at rfl) (by kernel_rfl) (by kernel_rfl) (by kernel_rfl) (fun _ _ _ h => h) (Or.inl ⟨by rfl, ?ya1⟩) (by assumption) ?na1
  case ya1 => (intro wS hSw; (try dsimp only at hSw); go_simp; try rfl)
  try simp only [Act.put, List.setIfInBounds_toArray, List.set_cons_zero, List.set_cons_succ]
  refine wpAnyH_take (i := 2) (v := ?_) (ops_at rfl) (by kernel_rfl) (by kernel_rfl) (by kernel_rfl) (fun _ _ _ h => h) (Or.inl ⟨by rfl, ?ya2⟩) (by assumption) ?na2
  case ya2 => (intro wS hSw; (try dsimp only at hSw); go_simp; try rfl)
  try simp only [Act.put, List.setIfInBounds_toArray, List.set_cons_zero, List.set_cons_succ]
  refine wpAnyH_take (i := 3) (v := ?_) (ops_at rfl) (by kernel_rfl) (by kernel_rfl) (by kernel_rfl) (fun _ _ _ h => h) (Or.inl ⟨by rfl, ?ya3⟩) (by assumption) ?na3
  case ya3 => (intro wS hSw; (try dsimp only at hSw); go_simp; try rfl)
  try simp only [Act.put, List.setIfInBounds_toArray, List.set_cons_zero, List.set_cons_succ]
  refine wpAnyH_take (i := 4) (v := ?_) (ops_at rfl) (by kernel_rfl) (by kernel_rfl) (by kernel_rfl) (fun _ _ _ h => h) (Or.inl ⟨by rfl, ?ya4⟩) (by assumption) ?na4
  case ya4 => (intro wS hSw; (try dsimp only at hSw); go_simp; try rfl)
  try simp only [Act.put, List.setIfInBounds_toArray, List.set_cons_zero, List.set_cons_succ]
  refine wpAnyH_take (i := 5) (v := ?_) (ops_at rfl) (by kernel_rfl) (by kernel_rfl) (by kernel_rfl) (fun _ _ _ h => h) (Or.inl ⟨by rfl, ?ya5⟩) (by assumption) ?na5
  case ya5 => (intro wS hSw; (try dsimp only at hSw); go_simp; try rfl)
  try simp only [Act.put, List.setIfInBounds_toArray, List.set_cons_zero, List.set_cons_succ]
  refine wpAnyH_take (i := 6) (v := ?_) (ops_at rfl) (by kernel_rfl) (by kernel_rfl) (by kernel_rfl) (fun _ _ _ h => h) (Or.inl ⟨by rfl, ?ya6⟩) (by assumption) ?na6
  case ya6 => (intro wS hSw; (try dsimp only at hSw); go_simp; try rfl)
  try simp only [Act.put, List.setIfInBounds_toArray, List.set_cons_zero, List.set_cons_succ]
  refine wpAnyH_take (i := 7) (v := ?_) (ops_at rfl) (by kernel_rfl) (by kernel_rfl) (by kernel_rfl) (fun _ _ _ h => h) (Or.inl ⟨by rfl, ?ya7⟩) (by assumption) ?na7
  case ya7 => (intro wS hSw; (try dsimp only at hSw); go_simp; try rfl)
  try simp only [Act.put, List.setIfInBounds_toArray, List.set_cons_zero, List.set_cons_succ]
  refine wpAnyH_take (i := 8) (v := ?_) (ops_at rfl) (by kernel_rfl) (by kernel_rfl) (by kernel_rfl) (fun _ _ _ h => h) (Or.inl ⟨by rfl, ?ya8⟩) (by assumption) ?na8
  case ya8 => (intro wS hSw; (try dsimp only at hSw); go_simp; try rfl)
  try simp only [Act.put, List.setIfInBounds_toArray, List.set_cons_zero, List.set_cons_succ]
  refine wpAnyH_take (i := 9) (v := ?_) (ops_at rfl) (by kernel_rfl) (by kernel_rfl) (by kernel_rfl) (fun _ _ _ h => h) (Or.inl ⟨by rfl, ?ya9⟩) (by assumption) ?na9
  case ya9 => (intro wS hSw; (try dsimp only at hSw); go_simp; try rfl)
  try simp only [Act.put, List.setIfInBounds_toArray, List.set_cons_zero, List.set_cons_succ]
  refine wpAnyH_take (i := 10) (v := ?_) (ops_at rfl) (by kernel_rfl) (by kernel_rfl) (by kernel_rfl) (fun _ _ _ h => h) (Or.inl ⟨by rfl, ?ya10⟩) (by assumption) ?na10
  case ya10 => (intro wS hSw; (try dsimp only at hSw); go_simp; try rfl)
  try simp only [Act.put, List.setIfInBounds_toArray, List.set_cons_zero, List.set_cons_succ]
  refine wpAnyH_take (i := 11) (v := ?_) (ops_at rfl) (by kernel_rfl) (by kernel_rfl) (by kernel_rfl) (fun _ _ _ h => h) (Or.inl ⟨by rfl, ?ya11⟩) (by assumption) ?na11
  case ya11 => (intro wS hSw; (try dsimp only at hSw); go_simp; try rfl)
  try simp only [Act.put, List.setIfInBounds_toArray, List.set_cons_zero, List.set_cons_succ]
  refine wpAnyH_done (by kernel_rfl) ?_ _
  go_wp2
  go_ret
  exact ⟨rfl, drewB HB.out⟩
/-- What boards are worth together. -/
def sumB (t : Nat → Nat → Int) (bs : List (Nat × Nat)) : Int := bs.foldl (fun s p => s + t p.1 p.2) 0
theorem sumB_next (t : Nat → Nat → Int) {bs : List (Nat × Nat)} {k : Nat} {p : Nat × Nat} (h : bs[k]? = some p) : sumB t (bs.take (k + 1)) = sumB t (bs.take k) + t p.1 p.2 := by
  obtain ⟨hk, rfl⟩ := List.getElem?_eq_some_iff.1 h
  rw [List.take_succ_eq_append_getElem hk, sumB, List.foldl_append]
  rfl
theorem sumB_bd {t : Nat → Nat → Int} {bs : List (Nat × Nat)} (h : ∀ p ∈ bs, 0 ≤ t p.1 p.2 ∧ t p.1 p.2 ≤ 1000000000000001) : ∀ k, k ≤ bs.length → 0 ≤ sumB t (bs.take k) ∧ sumB t (bs.take k) ≤ 1000000000000001 * (k : Int) := by
  intro k
  induction k with
  | zero => intro _; simp [sumB]
  | succ k ih =>
    intro hk
    have h1 := ih (by omega)
    have h2 := h bs[k] (List.getElem_mem _)
    rw [sumB_next t (List.getElem?_eq_getElem (show k < bs.length by omega))]
    push_cast
    omega

set_option maxRecDepth 100000 in
set_option maxHeartbeats 1000000 in
theorem sum_worth (B0 X g n c : Nat) (t : Nat → Nat → Int) (ok : Nat → Nat → Prop) (bs : List (Nat × Nat)) (w : World) (hT : Worth w B0 X t ok) (hB : B0 ≤ w.heap.size) (hn : bs.length = n) (hn2 : n ≤ 2)
    (hg : g < w.heap.size) (hc : ∀ (k : Nat) p, bs[k]? = some p → w.cell? ⟨g, k * 2, none⟩ = some (.int .i64 (p.1 : Int)) ∧ w.cell? ⟨g, k * 2 + 1, none⟩ = some (.int .i64 (p.2 : Int)))
    (hok : ∀ p ∈ bs, ok p.1 p.2) (hbd : ∀ p ∈ bs, 0 ≤ t p.1 p.2 ∧ t p.1 p.2 ≤ 1000000000000001) :
    Calls Try.prog 76 #[.slice (some ⟨g, 0, none⟩) n c, .func (.func 77) #[] #[.pointer (some ⟨X, 0, none⟩)]] w fun e w' => e = .returned (.int .i64 (sumB t bs)) ∧ Below w.heap.size w w' := by
  have HN := Lib.hid hn
  have HT := Lib.hid hT
  have HC := Lib.hid hc
  have HOK := Lib.hid hok
  have HBD := Lib.hid hbd
  clear hn hT hc hok hbd
  go_enter Try.func76, Try.ntmps76
  go_wp2
  go_loopw [5, 7, 10] (fun s _ i wr => ∃ k : Nat, k ≤ n ∧ i = .int .i64 k ∧ s = .int .i64 (sumB t (bs.take k)) ∧ Below w.heap.size w wr) (fun _ _ i _ => n - (intOf i).toNat)
  case atStart => exact ⟨0, Nat.zero_le _, rfl, rfl, Below.refl _ _⟩
  case round =>
    obtain ⟨k, hk, rfl, rfl, hb⟩ := hrel
    have hz := hb.size
    by_cases hlt : k < n
    · obtain ⟨p, hp⟩ : ∃ p, bs[k]? = some p := ⟨_, List.getElem?_eq_getElem (by rw [HN.out]; exact hlt)⟩
      obtain ⟨a, b⟩ := p
      obtain ⟨c0, c1⟩ := HC.out k (a, b) hp
      have d0 : wr.cell? ⟨g, k * 2, none⟩ = some (.int .i64 (a : Int)) := (hb.cell (p := ⟨g, k * 2, none⟩) hg).trans c0
      have d1 : wr.cell? ⟨g, k * 2 + 1, none⟩ = some (.int .i64 (b : Int)) := (hb.cell (p := ⟨g, k * 2 + 1, none⟩) hg).trans c1
      have hsn := sumB_next t hp
      have hbk := sumB_bd HBD.out k (by rw [HN.out]; omega)
      have hv := HBD.out _ (List.mem_of_getElem? hp)
      have HO := Lib.hid (HOK.out _ (List.mem_of_getElem? hp))
      obtain ⟨v, hv'⟩ : ∃ v, t a b = v := ⟨_, rfl⟩
      obtain ⟨s0, hs0⟩ : ∃ s0, sumB t (bs.take k) = s0 := ⟨_, rfl⟩
      simp only [] at hsn hv
      rw [hs0] at hsn hbk ⊢
      rw [hv'] at hsn hv
      have HV := Lib.hid hv'
      have HSN := Lib.hid hsn
      have hsw : IntKind.i64.wrap (s0 + v) = s0 + v := by rw [IntKind.wrap_i64]; omega
      have HTW := Lib.hid (HT.out.below hb hB)
      clear hp c0 c1 hs0 hsn hv' hv hbk
      go_wp2_with fail
      refine (one_worth B0 X a b t ok _ (HTW.out.below ((Below.refl _ _).alloc (Nat.le_refl _) _) (by omega)) (by simp; omega) HO.out v HV.out).mono ?_
      rintro e w1 ⟨rfl, hb1⟩
      have hb3 := (hb.alloc hb.size (.cells #[.int .i64 (a : Int), .int .i64 (b : Int)] 55)).trans (hb1.mono (by simp; omega))
      go_wp2
      go_roundw
      case rel => exact ⟨k + 1, by omega, by go_num, by rw [HSN.out], hb3⟩
      case measure => simp [intOf]; omega
    · obtain rfl : k = n := by omega
      have HE := Lib.hid (show bs.take k = bs by rw [← HN.out, List.take_length])
      go_wp2
      go_ret
      exact ⟨by rw [HE.out]; rfl, hb⟩

theorem worth_any (B0 X g n c : Nat) (t : Nat → Nat → Int) (ok : Nat → Nat → Prop) (bs : List (Nat × Nat)) (w : World) (hT : Worth w B0 X t ok) (hB : B0 ≤ w.heap.size) (hn : bs.length = n) (hn2 : n ≤ 2)
    (hg : g < w.heap.size) (hc : ∀ (k : Nat) p, bs[k]? = some p → w.cell? ⟨g, k * 2, none⟩ = some (.int .i64 (p.1 : Int)) ∧ w.cell? ⟨g, k * 2 + 1, none⟩ = some (.int .i64 (p.2 : Int)))
    (hok : ∀ p ∈ bs, ok p.1 p.2) (hbd : ∀ p ∈ bs, 0 ≤ t p.1 p.2 ∧ t p.1 p.2 ≤ 1000000000000001) (v : Int) (hv : sumB t bs = v) :
    Calls Try.prog 75 #[.slice (some ⟨g, 0, none⟩) n c, .pointer (some ⟨X, 0, none⟩)] w fun e w' => e = .returned (.int .i64 v) ∧ Below w.heap.size w w' := by
  have HS := Lib.hid (sum_worth B0 X g n c t ok bs w hT hB hn hn2 hg hc hok hbd)
  rw [hv] at HS
  clear hT hn hc hok hbd hv
  go_enter Try.func75, Try.ntmps75
  go_wp2_with fail
  refine HS.out.mono ?_
  rintro e w1 ⟨rfl, hb1⟩
  go_wp2
  go_ret
  exact ⟨rfl, hb1⟩
end Go.Proofs.Ytjpejhpilfjheaa

/-
  The visitor of the walk through all nestings: it keeps the least cost, the first nesting of it, and how many there are.
  Conditions: there are boxes, and each costs between 0 and 1000000.
-/
import Derived.Test.YtbaofgbkcolmmabNesV
import Derived.Test.YtbaofgbkcolmmabNesB
import Derived.Test.YtbaofgbkcolmmabCloneI
namespace Go.Proofs.Ytbaofgbkcolmmab
set_option linter.unusedVariables false
open Go.RowKit

/-- What boxes cost together. -/
def sumC (κ : Nat → Int) (ks : List Int) : Int := ks.foldl (fun s k => s + κ k.toNat) 0
theorem sumC_take {κ : Nat → Int} {ks : List Int} {k : Nat} {u : Int} (h : ks[k]? = some u) : sumC κ (ks.take (k + 1)) = sumC κ (ks.take k) + κ u.toNat := by
  unfold sumC
  rw [take_next h, List.foldl_append]
  rfl
theorem sumC_snoc (κ : Nat → Int) (ks : List Int) (u : Int) : sumC κ (ks ++ [u]) = sumC κ ks + κ u.toNat := by
  unfold sumC
  rw [List.foldl_append]
  rfl
/-- What the outer boxes of a nesting cost. -/
def costC (κ : Nat → Int) (plan : List Int) : Int := sumC κ (outerL plan)
theorem outer_in (plan : List Int) : ∀ k, k ≤ plan.length → ∀ u ∈ outerF plan k, 0 ≤ u ∧ u < (k : Int) := by
  intro k
  induction k with
  | zero => intro _ u hu; cases hu
  | succ k ih =>
    intro hk u hu
    rw [outerF] at hu
    rcases List.mem_append.1 hu with hu | hu
    · have := ih (by omega) u hu; omega
    · split at hu
      · rw [List.mem_singleton] at hu; omega
      · cases hu
theorem sumC_bd {κ : Nat → Int} {n : Nat} (hκ : ∀ k, k < n → 0 ≤ κ k ∧ κ k ≤ 1000000) : ∀ (k : Nat) (ks : List Int), (∀ u ∈ ks, 0 ≤ u ∧ u < (n : Int)) → 0 ≤ sumC κ (ks.take k) ∧ sumC κ (ks.take k) ≤ (k : Int) * 1000000 := by
  intro k
  induction k with
  | zero => intro ks _; simp [sumC]
  | succ k ih =>
    intro ks h
    have hi := ih ks h
    cases e : ks[k]? with
    | none =>
      have hl : ks.length ≤ k := List.getElem?_eq_none_iff.1 e
      rw [List.take_of_length_le (by omega)]
      rw [List.take_of_length_le hl] at hi
      omega
    | some u =>
      rw [sumC_take e]
      have hu := h u (List.mem_of_getElem? e)
      have := hκ u.toNat (by omega)
      omega

/-- The least cost so far, and the first nesting that has it. -/
def leastC (g : List Int → Int) : List (List Int) → Int
  | [] => 0
  | b :: _ => g b
def firstC : List (List Int) → List Int
  | [] => []
  | b :: _ => b

structure RL (P p0 p1 p2 : Nat) (fn : Value) (A : Option Addr) (n c : Nat) (g : List Int → Int) (ob : Option Nat) (L : List (List Int)) (w : World) : Prop where
  size : P ≤ w.heap.size
  far : ∀ g, ob = some g → P ≤ g
  fnc : w.heap[p0]? = some (.cells #[fn] 69 (0, 0))
  bxs : w.heap[p1]? = some (.cells #[.slice A n c] 26 (0, 0))
  lst : ∃ Af nf cf, w.heap[p2]? = some (.cells #[.int .i64 (leastC g (nesB g L)), .slice Af nf cf, .int .i64 ((nesB g L).length : Nat)] 65 (0, 0)) ∧ (firstC (nesB g L)).length = nf ∧ Own w (P + 1) w.heap.size Af (firstC (nesB g L)) ∧ (firstC (nesB g L) ≠ [] → ∀ g', Af = some ⟨g', 0, none⟩ → ob ≠ some g')

theorem RL.keeps {P p0 p1 p2 n c : Nat} {fn : Value} {A : Option Addr} {g : List Int → Int} (h0 : p0 < P) (h1 : p1 < P) (h2 : p2 < P) : Keeps P (RL P p0 p1 p2 fn A n c g) where
  below ob L w w' h hb := by
    obtain ⟨Af, nf, cf, e1, e2, e3, e4⟩ := h.lst
    exact ⟨Nat.le_trans h.size hb.size, h.far, (hb.block p0 (heap_lt h.fnc)).trans h.fnc, (hb.block p1 (heap_lt h.bxs)).trans h.bxs,
      ⟨Af, nf, cf, (hb.block p2 (heap_lt e1)).trans e1, e2, (e3.below hb (Nat.le_refl _)).more (Nat.le_refl _) hb.size, e4⟩⟩
  row ob ob' L w w' h ho hob := by
    obtain ⟨Af, nf, cf, e1, e2, e3, e4⟩ := h.lst
    have hne : ∀ p, p < P → ¬ (p = P ∨ ob = some p) := fun p hp hs => by
      rcases hs with e | e
      · omega
      · have := h.far p e; omega
    refine ⟨Nat.le_trans h.size ho.size, fun g hg => ?_, (ho.block p0 (heap_lt h.fnc) (hne p0 h0)).trans h.fnc, (ho.block p1 (heap_lt h.bxs) (hne p1 h1)).trans h.bxs,
      ⟨Af, nf, cf, (ho.block p2 (heap_lt e1) (hne p2 h2)).trans e1, e2, ?_, fun hx g' hA => ?_⟩⟩
    · rcases hob with e | ⟨g', e, hg'⟩
      · exact h.far g (e ▸ hg)
      · rw [e] at hg
        injection hg with hg
        have := h.size
        omega
    · rcases e3 with e3 | ⟨b, cs, T, e, b1, b2, hb, hc⟩
      · exact .inl e3
      · by_cases hx : firstC (nesB g L) = []
        · exact .inl hx
        · exact .inr ⟨b, cs, T, e, b1, by have := ho.size; omega, (ho.block b b2 (fun hs => by
            rcases hs with hs | hs
            · omega
            · exact e4 hx b e hs)).trans hb, hc⟩
    · rcases hob with e | ⟨g2, e, hg2⟩
      · rw [e]; exact e4 hx g' hA
      · rw [e]
        intro e'
        injection e' with e'
        have := (e3.lt_ hx hA).2
        omega

theorem RL.grown {P p0 p1 p2 n c : Nat} {fn : Value} {A : Option Addr} {g : List Int → Int} {ob : Option Nat} {L L' : List (List Int)} {w w' : World} (h : RL P p0 p1 p2 fn A n c g ob L w) (hg : w.grownBy w' (some p2)) (h0 : p0 ≠ p2) (h1 : p1 ≠ p2) (h2 : p2 < P)
    {Af : Option Addr} {nf cf : Nat} (hc : w'.heap[p2]? = some (.cells #[.int .i64 (leastC g (nesB g L')), .slice Af nf cf, .int .i64 ((nesB g L').length : Nat)] 65 (0, 0))) (hl : (firstC (nesB g L')).length = nf) (ho : Own w (P + 1) w.heap.size Af (firstC (nesB g L'))) (hne : firstC (nesB g L') ≠ [] → ∀ g', Af = some ⟨g', 0, none⟩ → ob ≠ some g') :
    RL P p0 p1 p2 fn A n c g ob L' w' :=
  ⟨Nat.le_trans h.size hg.size, h.far, (hg.block p0 (heap_lt h.fnc) (fun e => h0 (Option.some.inj e))).trans h.fnc, (hg.block p1 (heap_lt h.bxs) (fun e => h1 (Option.some.inj e))).trans h.bxs,
    ⟨Af, nf, cf, hc, hl, (Own.grownFar ho hg (Nat.le_refl _) (fun hx g' hA e => by have h := (ho.lt_ hx hA).1; injection e with e; omega)).more (Nat.le_refl _) hg.size, hne⟩⟩

theorem PileSt.grown {w w' : World} {P n c p2 : Nat} {A : Option Addr} {v : Value} {ks : List Int} (h : PileSt w P A n c v ks) (hg : w.grownBy w' (some p2)) (h2 : p2 < P) : PileSt w' P A n c v ks := by
  refine ⟨(hg.block P (heap_lt h.1) (fun e => by injection e with e; omega)).trans h.1, h.2.kept hg ?_⟩
  by_cases e : v.ownBlock = none
  · exact .inl e
  · exact .inr fun e' => by have := (h.2.lt p2 e').1; omega

theorem set_three {w : World} {p T : Nat} {a b c : Value} (h : w.heap[p]? = some (.cells #[a, b, c] T (0, 0))) (x y z : Value) : (((w.setCell ⟨p, 0, none⟩ x).setCell ⟨p, 1, none⟩ y).setCell ⟨p, 2, none⟩ z).heap[p]? = some (.cells #[x, y, z] T (0, 0)) := by
  rw [set_self ((set_self ((set_self h 0 x).trans rfl) 1 y).trans rfl) 2 z]
  rfl
theorem grown_three (w : World) (p : Nat) (x y z : Value) : w.grownBy (((w.setCell ⟨p, 0, none⟩ x).setCell ⟨p, 1, none⟩ y).setCell ⟨p, 2, none⟩ z) (some p) :=
  grown_set (grown_set (grown_set (World.grownBy.refl w (some p)) (p := ⟨p, 0, none⟩) rfl x) (p := ⟨p, 1, none⟩) rfl y) (p := ⟨p, 2, none⟩) rfl z
theorem below_three {w w' : World} {b p : Nat} (h : Below b w w') (hp : b ≤ p) (x y z : Value) : Below b w (((w'.setCell ⟨p, 0, none⟩ x).setCell ⟨p, 1, none⟩ y).setCell ⟨p, 2, none⟩ z) :=
  ((h.setCell (p := ⟨p, 0, none⟩) hp x).setCell (p := ⟨p, 1, none⟩) hp y).setCell (p := ⟨p, 2, none⟩) hp z

set_option maxRecDepth 100000 in
set_option maxHeartbeats 1000000 in
theorem sumOneNV (p0 p1 : Nat) (A : Option Addr) (n c : Nat) (bs : List (Int × Int × Int)) (lo hi : Nat) (κ : Nat → Int) (j : Nat) (w : World) (hn : bs.length = n) (hj : j < n) (hcf : w.cell? ⟨p0, 0, none⟩ = some (.func (.func 54) #[] #[])) (hcb : w.cell? ⟨p1, 0, none⟩ = some (.slice A n c)) (hs : Seg w lo hi A (flat3 bs))
    (hF : ∀ (k : Nat) (x y z : Int) (w : World), bs[k]? = some (x, y, z) → Calls Try.prog 54 #[.agg #[.int .i64 x, .int .i64 y, .int .i64 z]] w fun e w' => e = .returned (.int .i64 (κ k)) ∧ Below w.heap.size w w') :
    Calls Try.prog 91 #[.int .i64 (j : Int), .pointer (some ⟨p0, 0, none⟩), .pointer (some ⟨p1, 0, none⟩)] w fun e w' => e = .returned (.int .i64 (κ j)) ∧ Below w.heap.size w w' := by
  obtain ⟨b3, o3, x, y, z, hA3, _, hb3, hx, hc0, hc1, hc2⟩ := hs.tri (k := j) (by rw [hn]; exact hj)
  subst hA3
  have HFX := Lib.hid (fun W => hF j x y z W hx)
  clear hF hx hs hn
  go_enter Try.func91, Try.ntmps91
  go_wp2_with fail
  refine wp_region_held_drew (S := (fun wq => Below w.heap.size w wq ∧ wq.cell? ⟨p0, 0, none⟩ = some (.func (.func 54) #[] #[]) ∧ wq.cell? ⟨p1, 0, none⟩ = some (.slice (some ⟨b3, o3, none⟩) n c) ∧ wq.cell? ⟨b3, o3 + j * 3, none⟩ = some (.int .i64 x) ∧ wq.cell? ⟨b3, o3 + j * 3 + 1, none⟩ = some (.int .i64 y) ∧ wq.cell? ⟨b3, o3 + j * 3 + 2, none⟩ = some (.int .i64 z))) (by kernel_rfl) ⟨below_drewN (Below.refl _ _) 1, hcf, hcb, hc0, hc1, hc2⟩ (fun hH0 => ?_)
  refine wpAnyH_take (i := 0) (v := ?_) (ops_at rfl) (by kernel_rfl) (by kernel_rfl) (by kernel_rfl) (fun _ _ _ h => h) (Or.inl ⟨by rfl, ?ya0⟩) (by assumption) ?na0
  case ya0 => (intro wS hSw; (try dsimp only at hSw); go_simp; try rfl)
  try simp only [Act.put, List.setIfInBounds_toArray, List.set_cons_zero, List.set_cons_succ]
  refine wpAnyH_take (i := 1) (v := ?_) (ops_at rfl) (by kernel_rfl) (by kernel_rfl) (by kernel_rfl) (fun _ _ _ h => h) (Or.inl ⟨by rfl, ?ya1⟩) (by assumption) ?na1
  case ya1 => (intro wS hSw; (try dsimp only at hSw); go_simp; try rfl)
  try simp only [Act.put, List.setIfInBounds_toArray, List.set_cons_zero, List.set_cons_succ]
  refine wpAnyH_take (i := 2) (v := ?_) (ops_at rfl) (by kernel_rfl) (by kernel_rfl) (by kernel_rfl) (fun _ _ _ h => h) (Or.inl ⟨by rfl, ?ya2⟩) (by assumption) ?na2
  case ya2 => (intro wS hSw; (try dsimp only at hSw); go_simp; try rfl)
  try simp only [Act.put, List.setIfInBounds_toArray, List.set_cons_zero, List.set_cons_succ]
  refine wpAnyH_take (i := 3) (v := ?_) (ops_at rfl) (by kernel_rfl) (by kernel_rfl) (by kernel_rfl) (fun _ _ _ h => h) (Or.inl ⟨by rfl, ?ya3⟩) (by assumption) ?na3
  case ya3 => (intro wS hSw; (try dsimp only at hSw); go_simp; try rfl)
  try simp only [Act.put, List.setIfInBounds_toArray, List.set_cons_zero, List.set_cons_succ]
  refine wpAnyH_take (i := 4) (v := ?_) (ops_at rfl) (by kernel_rfl) (by kernel_rfl) (by kernel_rfl) (fun _ _ _ h => h) (Or.inl ⟨by rfl, ?ya4⟩) (by assumption) ?na4
  case ya4 => (intro wS hSw; (try dsimp only at hSw); go_simp; try rfl)
  try simp only [Act.put, List.setIfInBounds_toArray, List.set_cons_zero, List.set_cons_succ]
  refine wpAnyH_ready (rs := [5]) (by kernel_rfl) (by simp) ?_
  refine AllReadyH.cons (ops_at rfl) (fun K hK => ?_) AllReadyH.nil
  go_simp
  refine (HFX.out _).mono ?_
  rintro e w5 ⟨rfl, hb5⟩
  refine hK.out _ _ ⟨hH0.1.trans (hb5.mono hH0.1.size), (hb5.cell (cell_lt hH0.2.1)).trans hH0.2.1, (hb5.cell (cell_lt hH0.2.2.1)).trans hH0.2.2.1, (hb5.cell (cell_lt hH0.2.2.2.1)).trans hH0.2.2.2.1, (hb5.cell (cell_lt hH0.2.2.2.2.1)).trans hH0.2.2.2.2.1, (hb5.cell (cell_lt hH0.2.2.2.2.2)).trans hH0.2.2.2.2.2⟩ (fun hH1 => ?_)
  clear hK K
  refine wpAnyH_take (i := 6) (v := ?_) (ops_at rfl) (by kernel_rfl) (by kernel_rfl) (by kernel_rfl) (fun _ _ _ h => h) (Or.inl ⟨by rfl, ?yb6⟩) (by assumption) ?nb6
  case yb6 => (intro wS hSw; (try dsimp only at hSw); go_simp; try rfl)
  try simp only [Act.put, List.setIfInBounds_toArray, List.set_cons_zero, List.set_cons_succ]
  refine wpAnyH_done (by kernel_rfl) ?_ _
  go_wp2
  go_ret
  exact ⟨rfl, hH1.1⟩

set_option maxRecDepth 100000 in
set_option maxHeartbeats 1000000 in
theorem sumNV (p0 p1 : Nat) (A : Option Addr) (n c : Nat) (bs : List (Int × Int × Int)) (lo hi : Nat) (B : Option Addr) (m d : Nat) (os : List Int) (lo2 hi2 : Nat) (κ : Nat → Int) (w : World) (hn : bs.length = n) (hn7 : n ≤ 7) (hm : os.length = m) (hmn : m ≤ n) (hoi : ∀ u ∈ os, 0 ≤ u ∧ u < (n : Int)) (hκ : ∀ k, k < n → 0 ≤ κ k ∧ κ k ≤ 1000000)
    (hcf : w.cell? ⟨p0, 0, none⟩ = some (.func (.func 54) #[] #[])) (hcb : w.cell? ⟨p1, 0, none⟩ = some (.slice A n c)) (hs : Seg w lo hi A (flat3 bs)) (hhi : hi ≤ w.heap.size) (hs2 : Seg w lo2 hi2 B os) (hhi2 : hi2 ≤ w.heap.size)
    (hF : ∀ (k : Nat) (x y z : Int) (w : World), bs[k]? = some (x, y, z) → Calls Try.prog 54 #[.agg #[.int .i64 x, .int .i64 y, .int .i64 z]] w fun e w' => e = .returned (.int .i64 (κ k)) ∧ Below w.heap.size w w') :
    Calls Try.prog 89 #[.slice B m d, .func (.func 91) #[] #[.pointer (some ⟨p0, 0, none⟩), .pointer (some ⟨p1, 0, none⟩)]] w fun e w' => e = .returned (.int .i64 (sumC κ os)) ∧ Below w.heap.size w w' := by
  have HF := Lib.hid hF
  have HKK := Lib.hid hκ
  have HOI := Lib.hid hoi
  have HN := Lib.hid hn
  have HM := Lib.hid hm
  have HCF := Lib.hid hcf
  have HCB := Lib.hid hcb
  have HS := Lib.hid hs
  have HS2 := Lib.hid hs2
  clear hF hκ hoi hn hm hcf hcb hs hs2
  go_enter Try.func89, Try.ntmps89
  go_wp2
  go_loopw [5, 7, 10] (fun s _ i wr => ∃ k : Nat, k ≤ m ∧ i = .int .i64 k ∧ s = .int .i64 (sumC κ (os.take k)) ∧ Below w.heap.size w wr) (fun _ _ i _ => m - (intOf i).toNat)
  case atStart => exact ⟨0, Nat.zero_le _, rfl, rfl, Below.refl _ _⟩
  case round =>
    obtain ⟨k, hk, rfl, rfl, hbr⟩ := hrel
    have HBR := Lib.hid hbr
    obtain ⟨s, hs⟩ : ∃ s, sumC κ (os.take k) = s := ⟨_, rfl⟩
    have hsb := sumC_bd HKK.out k os HOI.out
    rw [hs] at hsb ⊢
    have HSUM := Lib.hid hs
    clear hs
    by_cases hlt : k < m
    · obtain ⟨b, off, u, rfl, _, hbh, hu, hcu⟩ := (HS2.out.below hbr hhi2).at_ (k := k) (by rw [HM.out]; exact hlt)
      have hui := HOI.out u (List.mem_of_getElem? hu)
      obtain ⟨j, rfl⟩ : ∃ j : Nat, u = (j : Int) := ⟨u.toNat, by omega⟩
      have hj : j < n := by omega
      have HNVT := Lib.hid (show sumC κ (os.take (k + 1)) = s + κ j by rw [sumC_take hu, HSUM.out]; rfl)
      have hkj := HKK.out j hj
      obtain ⟨q, hq⟩ : ∃ q, κ j = q := ⟨_, rfl⟩
      rw [hq] at hkj HNVT
      have HQ := Lib.hid hq
      have hsw : IntKind.i64.wrap (s + q) = s + q := by rw [IntKind.wrap_i64]; omega
      clear hu hq hbr
      go_wp2_with fail
      refine (sumOneNV p0 p1 A n c bs lo hi κ j _ HN.out hj ((HBR.out.cell (cell_lt HCF.out)).trans HCF.out) ((HBR.out.cell (cell_lt HCB.out)).trans HCB.out) (HS.out.below HBR.out hhi) HF.out).mono ?_
      rw [HQ.out]
      rintro e w' ⟨rfl, hb'⟩
      have HB' := Lib.hid (HBR.out.trans (hb'.mono HBR.out.size))
      clear hb'
      go_wp2
      go_roundw
      case rel => exact ⟨k + 1, by omega, by go_num, by rw [HNVT.out], HB'.out⟩
      case measure => simp [intOf]; omega
    · obtain rfl : k = m := by omega
      have HE := Lib.hid (show sumC κ os = s by rw [← HSUM.out, List.take_of_length_le (by rw [HM.out]; exact Nat.le_refl _)])
      go_wp2
      go_ret
      exact ⟨by rw [HE.out]; rfl, HBR.out⟩

set_option maxRecDepth 100000 in
set_option maxHeartbeats 4000000 in
theorem visitNV (p0 p1 p2 : Nat) (A : Option Addr) (n c : Nat) (bs : List (Int × Int × Int)) (lo hi P b0 : Nat) (κ : Nat → Int) (hn : bs.length = n) (hg : goodN bs = true) (hib : hi ≤ b0) (hbP : b0 ≤ P)
    (hκ : ∀ k, k < n → 0 ≤ κ k ∧ κ k ≤ 1000000) (hF : ∀ (k : Nat) (x y z : Int) (w : World), bs[k]? = some (x, y, z) → Calls Try.prog 54 #[.agg #[.int .i64 x, .int .i64 y, .int .i64 z]] w fun e w' => e = .returned (.int .i64 (κ k)) ∧ Below w.heap.size w w')
    (h0 : p0 < P) (h1 : p1 < P) (h2 : p2 < P) (h02 : p0 ≠ p2) (h12 : p1 ≠ p2) (hb2 : b0 ≤ p2) : VisitN p0 p1 p2 A n c bs lo hi P b0 (RL P p0 p1 p2 (.func (.func 54) #[] #[]) A n c (costC κ)) := by
  intro ks L v w hin hlen hL hb0 hs hp hr
  have hn7 : 1 ≤ n ∧ n ≤ 7 := by rw [← hn]; have := goodN_at hg; omega
  have hKP := RL.keeps (fn := .func (.func 54) #[] #[]) (A := A) (n := n) (c := c) (g := costC κ) h0 h1 h2
  obtain ⟨g5, d, hv, hg50, hg51, _, _⟩ := ownsRow_head hp.2 (by omega)
  rw [hlen] at hv
  subst hv
  have HKP := Lib.hid hKP
  have HN := Lib.hid hn
  have HLEN := Lib.hid hlen
  have HS := Lib.hid hs
  have HP := Lib.hid hp
  have HR := Lib.hid hr
  have HKK := Lib.hid hκ
  have HF := Lib.hid hF
  have HSEG := Lib.hid (ownsRow_own hp.2).2.seg
  have HGE := Lib.hid (show ∀ u ∈ ks, -1 ≤ u from fun u hu => (hin u hu).1)
  have HOI := Lib.hid (show ∀ u ∈ outerL ks, 0 ≤ u ∧ u < (n : Int) from fun u hu => by have := outer_in ks ks.length (Nat.le_refl _) u hu; rw [hlen] at this; exact this)
  have hol : (outerL ks).length ≤ n := by rw [← hlen]; exact outerF_length _ _
  have HSN := Lib.hid (nesB_snoc (costC κ) L ks)
  have hBL := nesB_len (costC κ) L
  obtain ⟨os, hos⟩ : ∃ os, outerL ks = os := ⟨_, rfl⟩
  rw [hos] at hol
  have HOS := Lib.hid hos
  clear hin hlen hs hp hr hn hg hκ hF hKP hos
  go_enter Try.func88, Try.ntmps88
  go_wp2_with fail
  refine (outerOf_any _ n d ks _ _ w HLEN.out (by omega) HSEG.out (Nat.le_refl _) HGE.out).mono ?_
  rw [HOS.out]
  rintro e w1 ⟨A1, n1, c1, rfl, hl1, hown1, hb1⟩
  have HOWN := Lib.hid hown1
  have HL1 := Lib.hid hl1
  have HB1 := Lib.hid hb1
  have hz1 := hb1.size
  rw [hl1] at hol
  clear hown1 hl1
  have hr1 := HKP.out.below _ _ _ _ HR.out hb1
  have HSUM1 := Lib.hid (sumNV p0 p1 A n c bs lo hi A1 n1 c1 os w.heap.size w1.heap.size κ w1 HN.out hn7.2 HL1.out (by omega) (by rw [← HOS.out]; exact HOI.out) HKK.out ((cell_of hr1.fnc 0).trans rfl) ((cell_of hr1.bxs 0).trans rfl) (HS.out.below hb1 (by omega)) (by omega) HOWN.out.seg (Nat.le_refl _) HF.out)
  clear hb1 hr1
  go_wp2_with fail
  refine HSUM1.out.mono ?_
  obtain ⟨s, hs⟩ : ∃ s, sumC κ os = s := ⟨_, rfl⟩
  rw [hs]
  have HCOST := Lib.hid (show costC κ ks = s by rw [costC, HOS.out, hs])
  clear hs
  rintro e wr ⟨rfl, hbr⟩
  have HBW := Lib.hid (HB1.out.trans (hbr.mono hz1))
  have HPW := Lib.hid (HP.out.below HBW.out)
  have HRW := Lib.hid (HKP.out.below _ _ _ _ HR.out HBW.out)
  have HSG := Lib.hid (HSEG.out.below HBW.out (Nat.le_refl _))
  have HBQ := Lib.hid (HBW.out.mono (B' := b0) hb0)
  have hzW := HBW.out.size
  obtain ⟨Af, nf, cf, e1, e2, e3, e4⟩ := HRW.out.lst
  have e4' : firstC (nesB (costC κ) L) ≠ [] → ∀ g', Af = some ⟨g', 0, none⟩ → (Value.slice (some ⟨g5, 0, none⟩) n d).ownBlock ≠ some g' := e4
  obtain ⟨V, hV⟩ : ∃ V, nesB (costC κ) L = V := ⟨_, rfl⟩
  rw [hV] at e1 e2 e3 e4' hBL
  have HSN2 := Lib.hid (show nesB (costC κ) (L ++ [ks]) = stepB (costC κ) V ks by rw [HSN.out, hV])
  have f0 := frozen_of e1 0
  have f1 := frozen_of e1 1
  have f2 := frozen_of e1 2
  have HLT2 := Lib.hid (heap_lt e1)
  clear e4 hV hbr HSN
  cases V with
  | nil =>
    have c0 : wr.cell? ⟨p2, 0, none⟩ = some (.int .i64 0) := (cell_of e1 0).trans rfl
    have c1' : wr.cell? ⟨p2, 1, none⟩ = some (.slice Af nf cf) := (cell_of e1 1).trans rfl
    have c2 : wr.cell? ⟨p2, 2, none⟩ = some (.int .i64 0) := (cell_of e1 2).trans rfl
    have HY := Lib.hid (show nesB (costC κ) (L ++ [ks]) = [ks] by rw [HSN2.out, stepB_nil])
    have HE1 := Lib.hid e1
    clear e1 e2 e3 e4'
    go_wp2_with fail
    refine (cloneI_any _ n _ ks _ _ _ HLEN.out (by omega) HSG.out (by omega)).mono ?_
    rintro e w2 ⟨v2, rfl, hown2, hb2'⟩
    obtain ⟨A2, c2', rfl⟩ := ownsRow_form hown2
    have g2 := (hb2'.block p2 HLT2.out).trans HE1.out
    have y0 := cell_of g2 0
    have y1 := cell_of g2 1
    have y2 := cell_of g2 2
    have x0 := frozen_of g2 0
    have x1 := frozen_of g2 1
    have x2 := frozen_of g2 2
    have HG2 := Lib.hid g2
    have HB2 := Lib.hid hb2'
    have HO2 := Lib.hid (ownsRow_own (ys := ks) (by rw [HLEN.out]; exact hown2)).2
    have hz2 := hb2'.size
    have HP2 := Lib.hid (HPW.out.below hb2')
    have HR2 := Lib.hid (HKP.out.below _ _ _ _ HRW.out hb2')
    have hPw := HRW.out.size
    have hzz : ((0 : Int) == 0) = true := rfl
    have hee : (s == s) = true := by simp
    clear g2 hown2 hb2' c0 c1' c2 f0 f1 f2
    go_wp2
    go_end0
    have hg4 := grown_set (grown_three w2 p2 (.int .i64 s) (.slice A2 n c2') (.int .i64 0)) (p := ⟨p2, 2, none⟩) rfl (.int .i64 1)
    have hPl := heap_lt HPW.out.1
    refine ⟨rfl, ⟨_, HP2.out.grown hg4 h2, HR2.out.grown hg4 h02 h12 h2 (Af := A2) (nf := n) (cf := c2') ?_ (by rw [HY.out]; exact HLEN.out) (by rw [HY.out]; exact HO2.out.more (by omega) (Nat.le_refl _)) (fun hx g' hA e => ?_)⟩, (below_three (HBQ.out.trans (HB2.out.mono (by omega))) hb2 _ _ _).setCell (p := ⟨p2, 2, none⟩) hb2 _⟩
    · rw [HY.out, set_self (set_three HG2.out _ _ _) 2 _, ← HCOST.out]
      rfl
    · rw [HY.out] at hx
      have h := (HO2.out.lt_ hx hA).1
      have e' : g5 = g' := (by injection e)
      omega
  | cons b r =>
    obtain ⟨q, hq⟩ : ∃ q, costC κ b = q := ⟨_, rfl⟩
    obtain ⟨mm, hmm⟩ : ∃ mm, (b :: r).length = mm := ⟨_, rfl⟩
    have c0 : wr.cell? ⟨p2, 0, none⟩ = some (.int .i64 q) := by rw [← hq]; exact (cell_of e1 0).trans rfl
    have c1' : wr.cell? ⟨p2, 1, none⟩ = some (.slice Af nf cf) := (cell_of e1 1).trans rfl
    have c2 : wr.cell? ⟨p2, 2, none⟩ = some (.int .i64 (mm : Nat)) := by rw [← hmm]; exact (cell_of e1 2).trans rfl
    have HE1 := Lib.hid e1
    have HMM := Lib.hid hmm
    have HQ := Lib.hid hq
    rw [hmm] at hBL
    have hmz : ((mm : Int) == 0) = false := by rw [beq_eq_false_iff_ne]; simp at hmm; omega
    by_cases hgt : s < q
    · have hd : decide (s < q) = true := decide_eq_true hgt
      have HY := Lib.hid (show nesB (costC κ) (L ++ [ks]) = [ks] by rw [HSN2.out, stepB_less (by rw [HCOST.out, hq]; exact hgt)])
      clear e1 e2 e3 e4' hq hmm
      go_wp2_with fail
      refine (cloneI_any _ n _ ks _ _ _ HLEN.out (by omega) HSG.out (by omega)).mono ?_
      rintro e w2 ⟨v2, rfl, hown2, hb2'⟩
      obtain ⟨A2, c2', rfl⟩ := ownsRow_form hown2
      have g2 := (hb2'.block p2 HLT2.out).trans HE1.out
      have y0 := cell_of g2 0
      have y1 := cell_of g2 1
      have y2 := cell_of g2 2
      have x0 := frozen_of g2 0
      have x1 := frozen_of g2 1
      have x2 := frozen_of g2 2
      have HG2 := Lib.hid g2
      have HB2 := Lib.hid hb2'
      have HO2 := Lib.hid (ownsRow_own (ys := ks) (by rw [HLEN.out]; exact hown2)).2
      have hz2 := hb2'.size
      have HP2 := Lib.hid (HPW.out.below hb2')
      have HR2 := Lib.hid (HKP.out.below _ _ _ _ HRW.out hb2')
      have hPw := HRW.out.size
      have hzz : ((0 : Int) == 0) = true := rfl
      have hee : (s == s) = true := by simp
      clear g2 hown2 hb2' c0 c1' c2 f0 f1 f2
      go_wp2
      go_end0
      have hg4 := grown_set (grown_three w2 p2 (.int .i64 s) (.slice A2 n c2') (.int .i64 0)) (p := ⟨p2, 2, none⟩) rfl (.int .i64 1)
      have hPl := heap_lt HPW.out.1
      refine ⟨rfl, ⟨_, HP2.out.grown hg4 h2, HR2.out.grown hg4 h02 h12 h2 (Af := A2) (nf := n) (cf := c2') ?_ (by rw [HY.out]; exact HLEN.out) (by rw [HY.out]; exact HO2.out.more (by omega) (Nat.le_refl _)) (fun hx g' hA e => ?_)⟩, (below_three (HBQ.out.trans (HB2.out.mono (by omega))) hb2 _ _ _).setCell (p := ⟨p2, 2, none⟩) hb2 _⟩
      · rw [HY.out, set_self (set_three HG2.out _ _ _) 2 _, ← HCOST.out]
        rfl
      · rw [HY.out] at hx
        have h := (HO2.out.lt_ hx hA).1
        have e' : g5 = g' := (by injection e)
        omega
    · have hd : decide (s < q) = false := decide_eq_false hgt
      by_cases heq : s = q
      · subst heq
        have hee : (s == s) = true := by simp
        have HY := Lib.hid (show nesB (costC κ) (L ++ [ks]) = b :: r ++ [ks] by rw [HSN2.out, stepB_same (by rw [HCOST.out, hq])])
        have HE2 := Lib.hid e2
        have HE3 := Lib.hid e3
        have HE4 := Lib.hid e4'
        clear e1 e2 e3 e4' hq hmm
        go_wp2
        go_end0
        have hg4 : wr.grownBy (wr.setCell ⟨p2, 2, none⟩ (.int .i64 ((mm : Int) + 1))) (some p2) := grown_set (World.grownBy.refl wr (some p2)) (p := ⟨p2, 2, none⟩) rfl _
        refine ⟨rfl, ⟨_, HPW.out.grown hg4 h2, HRW.out.grown hg4 h02 h12 h2 (Af := Af) (nf := nf) (cf := cf) ?_ (by rw [HY.out]; exact HE2.out) (by rw [HY.out]; exact HE3.out) (by rw [HY.out]; exact HE4.out)⟩, HBQ.out.setCell (p := ⟨p2, 2, none⟩) hb2 _⟩
        rw [HY.out, set_self HE1.out 2 _]
        have hml : ((b :: r ++ [ks]).length : Int) = (mm : Int) + 1 := by rw [← HMM.out]; simp
        rw [hml]
        rfl
      · have hee : (s == q) = false := by rw [beq_eq_false_iff_ne]; exact heq
        have HY := Lib.hid (show nesB (costC κ) (L ++ [ks]) = b :: r by rw [HSN2.out, stepB_more (by rw [HCOST.out, hq]; omega)])
        have HE2 := Lib.hid e2
        have HE3 := Lib.hid e3
        have HE4 := Lib.hid e4'
        clear e1 e2 e3 e4' hq hmm
        go_wp2
        go_end0
        exact ⟨rfl, ⟨_, HPW.out, ⟨HRW.out.size, HRW.out.far, HRW.out.fnc, HRW.out.bxs, Af, nf, cf, by rw [HY.out]; exact HE1.out, by rw [HY.out]; exact HE2.out, by rw [HY.out]; exact HE3.out, by rw [HY.out]; exact HE4.out⟩⟩, HBQ.out⟩
set_option maxRecDepth 100000 in
set_option maxHeartbeats 1000000 in
theorem sumOneNC (p0 p1 : Nat) (A : Option Addr) (n c : Nat) (bs : List (Int × Int × Int)) (lo hi : Nat) (κ : Nat → Int) (j : Nat) (w : World) (hn : bs.length = n) (hj : j < n) (hcf : w.cell? ⟨p0, 0, none⟩ = some (.func (.func 85) #[] #[])) (hcb : w.cell? ⟨p1, 0, none⟩ = some (.slice A n c)) (hs : Seg w lo hi A (flat3 bs))
    (hF : ∀ (k : Nat) (x y z : Int) (w : World), bs[k]? = some (x, y, z) → Calls Try.prog 85 #[.agg #[.int .i64 x, .int .i64 y, .int .i64 z]] w fun e w' => e = .returned (.int .i64 (κ k)) ∧ Below w.heap.size w w') :
    Calls Try.prog 91 #[.int .i64 (j : Int), .pointer (some ⟨p0, 0, none⟩), .pointer (some ⟨p1, 0, none⟩)] w fun e w' => e = .returned (.int .i64 (κ j)) ∧ Below w.heap.size w w' := by
  obtain ⟨b3, o3, x, y, z, hA3, _, hb3, hx, hc0, hc1, hc2⟩ := hs.tri (k := j) (by rw [hn]; exact hj)
  subst hA3
  have HFX := Lib.hid (fun W => hF j x y z W hx)
  clear hF hx hs hn
  go_enter Try.func91, Try.ntmps91
  go_wp2_with fail
  refine wp_region_held_drew (S := (fun wq => Below w.heap.size w wq ∧ wq.cell? ⟨p0, 0, none⟩ = some (.func (.func 85) #[] #[]) ∧ wq.cell? ⟨p1, 0, none⟩ = some (.slice (some ⟨b3, o3, none⟩) n c) ∧ wq.cell? ⟨b3, o3 + j * 3, none⟩ = some (.int .i64 x) ∧ wq.cell? ⟨b3, o3 + j * 3 + 1, none⟩ = some (.int .i64 y) ∧ wq.cell? ⟨b3, o3 + j * 3 + 2, none⟩ = some (.int .i64 z))) (by kernel_rfl) ⟨below_drewN (Below.refl _ _) 1, hcf, hcb, hc0, hc1, hc2⟩ (fun hH0 => ?_)
  refine wpAnyH_take (i := 0) (v := ?_) (ops_at rfl) (by kernel_rfl) (by kernel_rfl) (by kernel_rfl) (fun _ _ _ h => h) (Or.inl ⟨by rfl, ?ya0⟩) (by assumption) ?na0
  case ya0 => (intro wS hSw; (try dsimp only at hSw); go_simp; try rfl)
  try simp only [Act.put, List.setIfInBounds_toArray, List.set_cons_zero, List.set_cons_succ]
  refine wpAnyH_take (i := 1) (v := ?_) (ops_at rfl) (by kernel_rfl) (by kernel_rfl) (by kernel_rfl) (fun _ _ _ h => h) (Or.inl ⟨by rfl, ?ya1⟩) (by assumption) ?na1
  case ya1 => (intro wS hSw; (try dsimp only at hSw); go_simp; try rfl)
  try simp only [Act.put, List.setIfInBounds_toArray, List.set_cons_zero, List.set_cons_succ]
  refine wpAnyH_take (i := 2) (v := ?_) (ops_at rfl) (by kernel_rfl) (by kernel_rfl) (by kernel_rfl) (fun _ _ _ h => h) (Or.inl ⟨by rfl, ?ya2⟩) (by assumption) ?na2
  case ya2 => (intro wS hSw; (try dsimp only at hSw); go_simp; try rfl)
  try simp only [Act.put, List.setIfInBounds_toArray, List.set_cons_zero, List.set_cons_succ]
  refine wpAnyH_take (i := 3) (v := ?_) (ops_at rfl) (by kernel_rfl) (by kernel_rfl) (by kernel_rfl) (fun _ _ _ h => h) (Or.inl ⟨by rfl, ?ya3⟩) (by assumption) ?na3
  case ya3 => (intro wS hSw; (try dsimp only at hSw); go_simp; try rfl)
  try simp only [Act.put, List.setIfInBounds_toArray, List.set_cons_zero, List.set_cons_succ]
  refine wpAnyH_take (i := 4) (v := ?_) (ops_at rfl) (by kernel_rfl) (by kernel_rfl) (by kernel_rfl) (fun _ _ _ h => h) (Or.inl ⟨by rfl, ?ya4⟩) (by assumption) ?na4
  case ya4 => (intro wS hSw; (try dsimp only at hSw); go_simp; try rfl)
  try simp only [Act.put, List.setIfInBounds_toArray, List.set_cons_zero, List.set_cons_succ]
  refine wpAnyH_ready (rs := [5]) (by kernel_rfl) (by simp) ?_
  refine AllReadyH.cons (ops_at rfl) (fun K hK => ?_) AllReadyH.nil
  go_simp
  refine (HFX.out _).mono ?_
  rintro e w5 ⟨rfl, hb5⟩
  refine hK.out _ _ ⟨hH0.1.trans (hb5.mono hH0.1.size), (hb5.cell (cell_lt hH0.2.1)).trans hH0.2.1, (hb5.cell (cell_lt hH0.2.2.1)).trans hH0.2.2.1, (hb5.cell (cell_lt hH0.2.2.2.1)).trans hH0.2.2.2.1, (hb5.cell (cell_lt hH0.2.2.2.2.1)).trans hH0.2.2.2.2.1, (hb5.cell (cell_lt hH0.2.2.2.2.2)).trans hH0.2.2.2.2.2⟩ (fun hH1 => ?_)
  clear hK K
  refine wpAnyH_take (i := 6) (v := ?_) (ops_at rfl) (by kernel_rfl) (by kernel_rfl) (by kernel_rfl) (fun _ _ _ h => h) (Or.inl ⟨by rfl, ?yb6⟩) (by assumption) ?nb6
  case yb6 => (intro wS hSw; (try dsimp only at hSw); go_simp; try rfl)
  try simp only [Act.put, List.setIfInBounds_toArray, List.set_cons_zero, List.set_cons_succ]
  refine wpAnyH_done (by kernel_rfl) ?_ _
  go_wp2
  go_ret
  exact ⟨rfl, hH1.1⟩

set_option maxRecDepth 100000 in
set_option maxHeartbeats 1000000 in
theorem sumNC (p0 p1 : Nat) (A : Option Addr) (n c : Nat) (bs : List (Int × Int × Int)) (lo hi : Nat) (B : Option Addr) (m d : Nat) (os : List Int) (lo2 hi2 : Nat) (κ : Nat → Int) (w : World) (hn : bs.length = n) (hn7 : n ≤ 7) (hm : os.length = m) (hmn : m ≤ n) (hoi : ∀ u ∈ os, 0 ≤ u ∧ u < (n : Int)) (hκ : ∀ k, k < n → 0 ≤ κ k ∧ κ k ≤ 1000000)
    (hcf : w.cell? ⟨p0, 0, none⟩ = some (.func (.func 85) #[] #[])) (hcb : w.cell? ⟨p1, 0, none⟩ = some (.slice A n c)) (hs : Seg w lo hi A (flat3 bs)) (hhi : hi ≤ w.heap.size) (hs2 : Seg w lo2 hi2 B os) (hhi2 : hi2 ≤ w.heap.size)
    (hF : ∀ (k : Nat) (x y z : Int) (w : World), bs[k]? = some (x, y, z) → Calls Try.prog 85 #[.agg #[.int .i64 x, .int .i64 y, .int .i64 z]] w fun e w' => e = .returned (.int .i64 (κ k)) ∧ Below w.heap.size w w') :
    Calls Try.prog 89 #[.slice B m d, .func (.func 91) #[] #[.pointer (some ⟨p0, 0, none⟩), .pointer (some ⟨p1, 0, none⟩)]] w fun e w' => e = .returned (.int .i64 (sumC κ os)) ∧ Below w.heap.size w w' := by
  have HF := Lib.hid hF
  have HKK := Lib.hid hκ
  have HOI := Lib.hid hoi
  have HN := Lib.hid hn
  have HM := Lib.hid hm
  have HCF := Lib.hid hcf
  have HCB := Lib.hid hcb
  have HS := Lib.hid hs
  have HS2 := Lib.hid hs2
  clear hF hκ hoi hn hm hcf hcb hs hs2
  go_enter Try.func89, Try.ntmps89
  go_wp2
  go_loopw [5, 7, 10] (fun s _ i wr => ∃ k : Nat, k ≤ m ∧ i = .int .i64 k ∧ s = .int .i64 (sumC κ (os.take k)) ∧ Below w.heap.size w wr) (fun _ _ i _ => m - (intOf i).toNat)
  case atStart => exact ⟨0, Nat.zero_le _, rfl, rfl, Below.refl _ _⟩
  case round =>
    obtain ⟨k, hk, rfl, rfl, hbr⟩ := hrel
    have HBR := Lib.hid hbr
    obtain ⟨s, hs⟩ : ∃ s, sumC κ (os.take k) = s := ⟨_, rfl⟩
    have hsb := sumC_bd HKK.out k os HOI.out
    rw [hs] at hsb ⊢
    have HSUM := Lib.hid hs
    clear hs
    by_cases hlt : k < m
    · obtain ⟨b, off, u, rfl, _, hbh, hu, hcu⟩ := (HS2.out.below hbr hhi2).at_ (k := k) (by rw [HM.out]; exact hlt)
      have hui := HOI.out u (List.mem_of_getElem? hu)
      obtain ⟨j, rfl⟩ : ∃ j : Nat, u = (j : Int) := ⟨u.toNat, by omega⟩
      have hj : j < n := by omega
      have HNCT := Lib.hid (show sumC κ (os.take (k + 1)) = s + κ j by rw [sumC_take hu, HSUM.out]; rfl)
      have hkj := HKK.out j hj
      obtain ⟨q, hq⟩ : ∃ q, κ j = q := ⟨_, rfl⟩
      rw [hq] at hkj HNCT
      have HQ := Lib.hid hq
      have hsw : IntKind.i64.wrap (s + q) = s + q := by rw [IntKind.wrap_i64]; omega
      clear hu hq hbr
      go_wp2_with fail
      refine (sumOneNC p0 p1 A n c bs lo hi κ j _ HN.out hj ((HBR.out.cell (cell_lt HCF.out)).trans HCF.out) ((HBR.out.cell (cell_lt HCB.out)).trans HCB.out) (HS.out.below HBR.out hhi) HF.out).mono ?_
      rw [HQ.out]
      rintro e w' ⟨rfl, hb'⟩
      have HB' := Lib.hid (HBR.out.trans (hb'.mono HBR.out.size))
      clear hb'
      go_wp2
      go_roundw
      case rel => exact ⟨k + 1, by omega, by go_num, by rw [HNCT.out], HB'.out⟩
      case measure => simp [intOf]; omega
    · obtain rfl : k = m := by omega
      have HE := Lib.hid (show sumC κ os = s by rw [← HSUM.out, List.take_of_length_le (by rw [HM.out]; exact Nat.le_refl _)])
      go_wp2
      go_ret
      exact ⟨by rw [HE.out]; rfl, HBR.out⟩

set_option maxRecDepth 100000 in
set_option maxHeartbeats 4000000 in
theorem visitNC (p0 p1 p2 : Nat) (A : Option Addr) (n c : Nat) (bs : List (Int × Int × Int)) (lo hi P b0 : Nat) (κ : Nat → Int) (hn : bs.length = n) (hg : goodN bs = true) (hib : hi ≤ b0) (hbP : b0 ≤ P)
    (hκ : ∀ k, k < n → 0 ≤ κ k ∧ κ k ≤ 1000000) (hF : ∀ (k : Nat) (x y z : Int) (w : World), bs[k]? = some (x, y, z) → Calls Try.prog 85 #[.agg #[.int .i64 x, .int .i64 y, .int .i64 z]] w fun e w' => e = .returned (.int .i64 (κ k)) ∧ Below w.heap.size w w')
    (h0 : p0 < P) (h1 : p1 < P) (h2 : p2 < P) (h02 : p0 ≠ p2) (h12 : p1 ≠ p2) (hb2 : b0 ≤ p2) : VisitN p0 p1 p2 A n c bs lo hi P b0 (RL P p0 p1 p2 (.func (.func 85) #[] #[]) A n c (costC κ)) := by
  intro ks L v w hin hlen hL hb0 hs hp hr
  have hn7 : 1 ≤ n ∧ n ≤ 7 := by rw [← hn]; have := goodN_at hg; omega
  have hKP := RL.keeps (fn := .func (.func 85) #[] #[]) (A := A) (n := n) (c := c) (g := costC κ) h0 h1 h2
  obtain ⟨g5, d, hv, hg50, hg51, _, _⟩ := ownsRow_head hp.2 (by omega)
  rw [hlen] at hv
  subst hv
  have HKP := Lib.hid hKP
  have HN := Lib.hid hn
  have HLEN := Lib.hid hlen
  have HS := Lib.hid hs
  have HP := Lib.hid hp
  have HR := Lib.hid hr
  have HKK := Lib.hid hκ
  have HF := Lib.hid hF
  have HSEG := Lib.hid (ownsRow_own hp.2).2.seg
  have HGE := Lib.hid (show ∀ u ∈ ks, -1 ≤ u from fun u hu => (hin u hu).1)
  have HOI := Lib.hid (show ∀ u ∈ outerL ks, 0 ≤ u ∧ u < (n : Int) from fun u hu => by have := outer_in ks ks.length (Nat.le_refl _) u hu; rw [hlen] at this; exact this)
  have hol : (outerL ks).length ≤ n := by rw [← hlen]; exact outerF_length _ _
  have HSN := Lib.hid (nesB_snoc (costC κ) L ks)
  have hBL := nesB_len (costC κ) L
  obtain ⟨os, hos⟩ : ∃ os, outerL ks = os := ⟨_, rfl⟩
  rw [hos] at hol
  have HOS := Lib.hid hos
  clear hin hlen hs hp hr hn hg hκ hF hKP hos
  go_enter Try.func88, Try.ntmps88
  go_wp2_with fail
  refine (outerOf_any _ n d ks _ _ w HLEN.out (by omega) HSEG.out (Nat.le_refl _) HGE.out).mono ?_
  rw [HOS.out]
  rintro e w1 ⟨A1, n1, c1, rfl, hl1, hown1, hb1⟩
  have HOWN := Lib.hid hown1
  have HL1 := Lib.hid hl1
  have HB1 := Lib.hid hb1
  have hz1 := hb1.size
  rw [hl1] at hol
  clear hown1 hl1
  have hr1 := HKP.out.below _ _ _ _ HR.out hb1
  have HSUM1 := Lib.hid (sumNC p0 p1 A n c bs lo hi A1 n1 c1 os w.heap.size w1.heap.size κ w1 HN.out hn7.2 HL1.out (by omega) (by rw [← HOS.out]; exact HOI.out) HKK.out ((cell_of hr1.fnc 0).trans rfl) ((cell_of hr1.bxs 0).trans rfl) (HS.out.below hb1 (by omega)) (by omega) HOWN.out.seg (Nat.le_refl _) HF.out)
  clear hb1 hr1
  go_wp2_with fail
  refine HSUM1.out.mono ?_
  obtain ⟨s, hs⟩ : ∃ s, sumC κ os = s := ⟨_, rfl⟩
  rw [hs]
  have HCOST := Lib.hid (show costC κ ks = s by rw [costC, HOS.out, hs])
  clear hs
  rintro e wr ⟨rfl, hbr⟩
  have HBW := Lib.hid (HB1.out.trans (hbr.mono hz1))
  have HPW := Lib.hid (HP.out.below HBW.out)
  have HRW := Lib.hid (HKP.out.below _ _ _ _ HR.out HBW.out)
  have HSG := Lib.hid (HSEG.out.below HBW.out (Nat.le_refl _))
  have HBQ := Lib.hid (HBW.out.mono (B' := b0) hb0)
  have hzW := HBW.out.size
  obtain ⟨Af, nf, cf, e1, e2, e3, e4⟩ := HRW.out.lst
  have e4' : firstC (nesB (costC κ) L) ≠ [] → ∀ g', Af = some ⟨g', 0, none⟩ → (Value.slice (some ⟨g5, 0, none⟩) n d).ownBlock ≠ some g' := e4
  obtain ⟨V, hV⟩ : ∃ V, nesB (costC κ) L = V := ⟨_, rfl⟩
  rw [hV] at e1 e2 e3 e4' hBL
  have HSN2 := Lib.hid (show nesB (costC κ) (L ++ [ks]) = stepB (costC κ) V ks by rw [HSN.out, hV])
  have f0 := frozen_of e1 0
  have f1 := frozen_of e1 1
  have f2 := frozen_of e1 2
  have HLT2 := Lib.hid (heap_lt e1)
  clear e4 hV hbr HSN
  cases V with
  | nil =>
    have c0 : wr.cell? ⟨p2, 0, none⟩ = some (.int .i64 0) := (cell_of e1 0).trans rfl
    have c1' : wr.cell? ⟨p2, 1, none⟩ = some (.slice Af nf cf) := (cell_of e1 1).trans rfl
    have c2 : wr.cell? ⟨p2, 2, none⟩ = some (.int .i64 0) := (cell_of e1 2).trans rfl
    have HY := Lib.hid (show nesB (costC κ) (L ++ [ks]) = [ks] by rw [HSN2.out, stepB_nil])
    have HE1 := Lib.hid e1
    clear e1 e2 e3 e4'
    go_wp2_with fail
    refine (cloneI_any _ n _ ks _ _ _ HLEN.out (by omega) HSG.out (by omega)).mono ?_
    rintro e w2 ⟨v2, rfl, hown2, hb2'⟩
    obtain ⟨A2, c2', rfl⟩ := ownsRow_form hown2
    have g2 := (hb2'.block p2 HLT2.out).trans HE1.out
    have y0 := cell_of g2 0
    have y1 := cell_of g2 1
    have y2 := cell_of g2 2
    have x0 := frozen_of g2 0
    have x1 := frozen_of g2 1
    have x2 := frozen_of g2 2
    have HG2 := Lib.hid g2
    have HB2 := Lib.hid hb2'
    have HO2 := Lib.hid (ownsRow_own (ys := ks) (by rw [HLEN.out]; exact hown2)).2
    have hz2 := hb2'.size
    have HP2 := Lib.hid (HPW.out.below hb2')
    have HR2 := Lib.hid (HKP.out.below _ _ _ _ HRW.out hb2')
    have hPw := HRW.out.size
    have hzz : ((0 : Int) == 0) = true := rfl
    have hee : (s == s) = true := by simp
    clear g2 hown2 hb2' c0 c1' c2 f0 f1 f2
    go_wp2
    go_end0
    have hg4 := grown_set (grown_three w2 p2 (.int .i64 s) (.slice A2 n c2') (.int .i64 0)) (p := ⟨p2, 2, none⟩) rfl (.int .i64 1)
    have hPl := heap_lt HPW.out.1
    refine ⟨rfl, ⟨_, HP2.out.grown hg4 h2, HR2.out.grown hg4 h02 h12 h2 (Af := A2) (nf := n) (cf := c2') ?_ (by rw [HY.out]; exact HLEN.out) (by rw [HY.out]; exact HO2.out.more (by omega) (Nat.le_refl _)) (fun hx g' hA e => ?_)⟩, (below_three (HBQ.out.trans (HB2.out.mono (by omega))) hb2 _ _ _).setCell (p := ⟨p2, 2, none⟩) hb2 _⟩
    · rw [HY.out, set_self (set_three HG2.out _ _ _) 2 _, ← HCOST.out]
      rfl
    · rw [HY.out] at hx
      have h := (HO2.out.lt_ hx hA).1
      have e' : g5 = g' := (by injection e)
      omega
  | cons b r =>
    obtain ⟨q, hq⟩ : ∃ q, costC κ b = q := ⟨_, rfl⟩
    obtain ⟨mm, hmm⟩ : ∃ mm, (b :: r).length = mm := ⟨_, rfl⟩
    have c0 : wr.cell? ⟨p2, 0, none⟩ = some (.int .i64 q) := by rw [← hq]; exact (cell_of e1 0).trans rfl
    have c1' : wr.cell? ⟨p2, 1, none⟩ = some (.slice Af nf cf) := (cell_of e1 1).trans rfl
    have c2 : wr.cell? ⟨p2, 2, none⟩ = some (.int .i64 (mm : Nat)) := by rw [← hmm]; exact (cell_of e1 2).trans rfl
    have HE1 := Lib.hid e1
    have HMM := Lib.hid hmm
    have HQ := Lib.hid hq
    rw [hmm] at hBL
    have hmz : ((mm : Int) == 0) = false := by rw [beq_eq_false_iff_ne]; simp at hmm; omega
    by_cases hgt : s < q
    · have hd : decide (s < q) = true := decide_eq_true hgt
      have HY := Lib.hid (show nesB (costC κ) (L ++ [ks]) = [ks] by rw [HSN2.out, stepB_less (by rw [HCOST.out, hq]; exact hgt)])
      clear e1 e2 e3 e4' hq hmm
      go_wp2_with fail
      refine (cloneI_any _ n _ ks _ _ _ HLEN.out (by omega) HSG.out (by omega)).mono ?_
      rintro e w2 ⟨v2, rfl, hown2, hb2'⟩
      obtain ⟨A2, c2', rfl⟩ := ownsRow_form hown2
      have g2 := (hb2'.block p2 HLT2.out).trans HE1.out
      have y0 := cell_of g2 0
      have y1 := cell_of g2 1
      have y2 := cell_of g2 2
      have x0 := frozen_of g2 0
      have x1 := frozen_of g2 1
      have x2 := frozen_of g2 2
      have HG2 := Lib.hid g2
      have HB2 := Lib.hid hb2'
      have HO2 := Lib.hid (ownsRow_own (ys := ks) (by rw [HLEN.out]; exact hown2)).2
      have hz2 := hb2'.size
      have HP2 := Lib.hid (HPW.out.below hb2')
      have HR2 := Lib.hid (HKP.out.below _ _ _ _ HRW.out hb2')
      have hPw := HRW.out.size
      have hzz : ((0 : Int) == 0) = true := rfl
      have hee : (s == s) = true := by simp
      clear g2 hown2 hb2' c0 c1' c2 f0 f1 f2
      go_wp2
      go_end0
      have hg4 := grown_set (grown_three w2 p2 (.int .i64 s) (.slice A2 n c2') (.int .i64 0)) (p := ⟨p2, 2, none⟩) rfl (.int .i64 1)
      have hPl := heap_lt HPW.out.1
      refine ⟨rfl, ⟨_, HP2.out.grown hg4 h2, HR2.out.grown hg4 h02 h12 h2 (Af := A2) (nf := n) (cf := c2') ?_ (by rw [HY.out]; exact HLEN.out) (by rw [HY.out]; exact HO2.out.more (by omega) (Nat.le_refl _)) (fun hx g' hA e => ?_)⟩, (below_three (HBQ.out.trans (HB2.out.mono (by omega))) hb2 _ _ _).setCell (p := ⟨p2, 2, none⟩) hb2 _⟩
      · rw [HY.out, set_self (set_three HG2.out _ _ _) 2 _, ← HCOST.out]
        rfl
      · rw [HY.out] at hx
        have h := (HO2.out.lt_ hx hA).1
        have e' : g5 = g' := (by injection e)
        omega
    · have hd : decide (s < q) = false := decide_eq_false hgt
      by_cases heq : s = q
      · subst heq
        have hee : (s == s) = true := by simp
        have HY := Lib.hid (show nesB (costC κ) (L ++ [ks]) = b :: r ++ [ks] by rw [HSN2.out, stepB_same (by rw [HCOST.out, hq])])
        have HE2 := Lib.hid e2
        have HE3 := Lib.hid e3
        have HE4 := Lib.hid e4'
        clear e1 e2 e3 e4' hq hmm
        go_wp2
        go_end0
        have hg4 : wr.grownBy (wr.setCell ⟨p2, 2, none⟩ (.int .i64 ((mm : Int) + 1))) (some p2) := grown_set (World.grownBy.refl wr (some p2)) (p := ⟨p2, 2, none⟩) rfl _
        refine ⟨rfl, ⟨_, HPW.out.grown hg4 h2, HRW.out.grown hg4 h02 h12 h2 (Af := Af) (nf := nf) (cf := cf) ?_ (by rw [HY.out]; exact HE2.out) (by rw [HY.out]; exact HE3.out) (by rw [HY.out]; exact HE4.out)⟩, HBQ.out.setCell (p := ⟨p2, 2, none⟩) hb2 _⟩
        rw [HY.out, set_self HE1.out 2 _]
        have hml : ((b :: r ++ [ks]).length : Int) = (mm : Int) + 1 := by rw [← HMM.out]; simp
        rw [hml]
        rfl
      · have hee : (s == q) = false := by rw [beq_eq_false_iff_ne]; exact heq
        have HY := Lib.hid (show nesB (costC κ) (L ++ [ks]) = b :: r by rw [HSN2.out, stepB_more (by rw [HCOST.out, hq]; omega)])
        have HE2 := Lib.hid e2
        have HE3 := Lib.hid e3
        have HE4 := Lib.hid e4'
        clear e1 e2 e3 e4' hq hmm
        go_wp2
        go_end0
        exact ⟨rfl, ⟨_, HPW.out, ⟨HRW.out.size, HRW.out.far, HRW.out.fnc, HRW.out.bxs, Af, nf, cf, by rw [HY.out]; exact HE1.out, by rw [HY.out]; exact HE2.out, by rw [HY.out]; exact HE3.out, by rw [HY.out]; exact HE4.out⟩⟩, HBQ.out⟩
end Go.Proofs.Ytbaofgbkcolmmab

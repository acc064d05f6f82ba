/-
  The written program's table of the best cuts.
  Conditions: one to sixty prices from 0 to 1000, a rod of 1 to 60.
-/
import Derived.Test.YthlhpddfifpkeabCutsT
import Derived.Deep.RegionHeld3
import Derived.Laws.AppendOwnNone
namespace Go.Proofs.Ythlhpddfifpkeab
set_option linter.unusedVariables false
open Go.RowKit

/-- A worth, a list and a count are answered; the list lies in new memory. -/
def RetB3 (v : Int) (fs : List Int) (cnt : Int) (w : World) (e : Ending) (w' : World) : Prop :=
  ∃ A c, e = .returned (.agg #[.int .i64 v, .slice A fs.length c, .int .i64 cnt]) ∧ Own w' w.heap.size w'.heap.size A fs ∧ Below w.heap.size w w'

/-- The cells of a worth, a list and a count. -/
def Cut3 (wq : World) (g : Nat) (v : Int) (A : Option Addr) (n c : Nat) (cnt : Int) : Prop :=
  wq.cell? ⟨g, 0, none⟩ = some (.int .i64 v) ∧ wq.cell? ⟨g, 1, none⟩ = some (.slice A n c) ∧ wq.cell? ⟨g, 2, none⟩ = some (.int .i64 cnt)

theorem Cut3.of {w : World} {g T : Nat} {v : Int} {A : Option Addr} {n c : Nat} {cnt : Int} (h : w.heap[g]? = some (.cells #[.int .i64 v, .slice A n c, .int .i64 cnt] T (0, 0))) : Cut3 w g v A n c cnt := by
  refine ⟨?_, ?_, ?_⟩ <;> (rw [cell_of h]; rfl)

theorem Cut3.below {B : Nat} {w w' : World} {g : Nat} {v : Int} {A : Option Addr} {n c : Nat} {cnt : Int} (h : Cut3 w g v A n c cnt) (hb : Below B w w') (hl : g < B) : Cut3 w' g v A n c cnt :=
  ⟨(hb.cell (p := ⟨g, 0, none⟩) hl).trans h.1, (hb.cell (p := ⟨g, 1, none⟩) hl).trans h.2.1, (hb.cell (p := ⟨g, 2, none⟩) hl).trans h.2.2⟩

theorem below_set3 {B g : Nat} {a w : World} (h : Below B a w) (hg : B ≤ g) (v0 v1 v2 : Value) : Below B a (((w.setCell ⟨g, 0, none⟩ v0).setCell ⟨g, 1, none⟩ v1).setCell ⟨g, 2, none⟩ v2) :=
  ((h.setCell (p := ⟨g, 0, none⟩) hg _).setCell (p := ⟨g, 1, none⟩) hg _).setCell (p := ⟨g, 2, none⟩) hg _

section
variable (bw bc lw lc : Int) (bA lA : Option Addr) (bn bk ln lk : Nat) (w : World)

set_option maxHeartbeats 400000 in
theorem and_none (hb : bc = 0) :
    Calls Try.prog 127 #[.agg #[.int .i64 bw, .slice bA bn bk, .int .i64 bc], .agg #[.int .i64 lw, .slice lA ln lk, .int .i64 lc]] w fun e w' => e = .returned (.agg #[.int .i64 lw, .slice lA ln lk, .int .i64 lc]) ∧ Below w.heap.size w w' := by
  subst hb
  go_enter Try.func127, Try.ntmps127
  go_wp2
  refine bodyPost_ret (v := .agg #[.int .i64 lw, .slice lA ln lk, .int .i64 lc]) (by simp [results, Try.results127, go_sem]) rfl ⟨rfl, ?_⟩
  exact ((((Below.refl _ _).alloc (Nat.le_refl _) _).alloc (by simp) _).alloc (by simp; omega) _)

set_option maxHeartbeats 400000 in
theorem and_more (hb : bc ≠ 0) (h : bw < lw) :
    Calls Try.prog 127 #[.agg #[.int .i64 bw, .slice bA bn bk, .int .i64 bc], .agg #[.int .i64 lw, .slice lA ln lk, .int .i64 lc]] w fun e w' => e = .returned (.agg #[.int .i64 lw, .slice lA ln lk, .int .i64 lc]) ∧ Below w.heap.size w w' := by
  have hb' : (bc == 0) = false := by rw [beq_eq_false_iff_ne]; exact hb
  go_enter Try.func127, Try.ntmps127
  go_wp2
  refine bodyPost_ret (v := .agg #[.int .i64 lw, .slice lA ln lk, .int .i64 lc]) (by simp [results, Try.results127, go_sem]) rfl ⟨rfl, ?_⟩
  exact ((((Below.refl _ _).alloc (Nat.le_refl _) _).alloc (by simp) _).alloc (by simp; omega) _)

set_option maxHeartbeats 400000 in
theorem and_same (hb : bc ≠ 0) (h : lw = bw) (hc : 0 ≤ bc ∧ 0 ≤ lc ∧ bc + lc ≤ 1152921504606846976) :
    Calls Try.prog 127 #[.agg #[.int .i64 bw, .slice bA bn bk, .int .i64 bc], .agg #[.int .i64 lw, .slice lA ln lk, .int .i64 lc]] w fun e w' => e = .returned (.agg #[.int .i64 bw, .slice bA bn bk, .int .i64 (bc + lc)]) ∧ Below w.heap.size w w' := by
  subst h
  obtain ⟨hc1, hc2, hc3⟩ := hc
  have hb' : (bc == 0) = false := by rw [beq_eq_false_iff_ne]; exact hb
  go_enter Try.func127, Try.ntmps127
  go_wp2
  refine bodyPost_ret (v := .agg #[.int .i64 lw, .slice bA bn bk, .int .i64 (bc + lc)]) (by simp [results, Try.results127, go_sem]) rfl ⟨rfl, ?_⟩
  first
    | exact ((((Below.refl _ _).alloc (Nat.le_refl _) _).alloc (by simp) _).alloc (by simp; omega) _)
    | exact ((((Below.refl _ _).alloc (Nat.le_refl _) _).setCell (Nat.le_refl _) _).alloc (by simp [World.setCell]) _).alloc (by simp [World.setCell]; omega) _

set_option maxHeartbeats 400000 in
theorem and_less (hb : bc ≠ 0) (h : lw < bw) :
    Calls Try.prog 127 #[.agg #[.int .i64 bw, .slice bA bn bk, .int .i64 bc], .agg #[.int .i64 lw, .slice lA ln lk, .int .i64 lc]] w fun e w' => e = .returned (.agg #[.int .i64 bw, .slice bA bn bk, .int .i64 bc]) ∧ Below w.heap.size w w' := by
  have hb' : (bc == 0) = false := by rw [beq_eq_false_iff_ne]; exact hb
  have hl' : (lw == bw) = false := by rw [beq_eq_false_iff_ne]; omega
  have hl2 : decide (bw < lw) = false := by rw [decide_eq_false_iff_not]; omega
  go_enter Try.func127, Try.ntmps127
  go_wp2
  refine bodyPost_ret (v := .agg #[.int .i64 bw, .slice bA bn bk, .int .i64 bc]) (by simp [results, Try.results127, go_sem]) rfl ⟨rfl, ?_⟩
  exact ((((Below.refl _ _).alloc (Nat.le_refl _) _).alloc (by simp) _).alloc (by simp; omega) _)
end
/-- A piece more. -/
theorem cut3_far {w : World} {g : Nat} {v : Int} {A : Option Addr} {n c : Nat} {cnt : Int} (h : Cut3 w g v A n c cnt) (v0 v1 v2 : Value) : Cut3 (((w.setCell ⟨g + 1, 0, none⟩ v0).setCell ⟨g + 1, 1, none⟩ v1).setCell ⟨g + 1, 2, none⟩ v2) g v A n c cnt := by
  have e : ∀ o, (((w.setCell ⟨g + 1, 0, none⟩ v0).setCell ⟨g + 1, 1, none⟩ v1).setCell ⟨g + 1, 2, none⟩ v2).cell? ⟨g, o, none⟩ = w.cell? ⟨g, o, none⟩ := fun o =>
    World.cell?_of_block ((set_far _ (p := ⟨g + 1, 2, none⟩) (by simp) _).trans ((set_far _ (p := ⟨g + 1, 1, none⟩) (by simp) _).trans (set_far _ (p := ⟨g + 1, 0, none⟩) (by simp) _)))
  exact ⟨(e 0).trans h.1, (e 1).trans h.2.1, (e 2).trans h.2.2⟩

theorem own_far {w : World} {lo hi : Nat} {A : Option Addr} {xs : List Int} (h : Own w lo hi A xs) {g : Nat} (hg : g < lo) (v0 v1 v2 : Value) : Own (((w.setCell ⟨g, 0, none⟩ v0).setCell ⟨g, 1, none⟩ v1).setCell ⟨g, 2, none⟩ v2) lo hi A xs :=
  h.keep fun b h1 _ => (set_far _ (p := ⟨g, 2, none⟩) (by show b ≠ g; omega) _).trans ((set_far _ (p := ⟨g, 1, none⟩) (by show b ≠ g; omega) _).trans (set_far _ (p := ⟨g, 0, none⟩) (by show b ≠ g; omega) _))

set_option maxRecDepth 100000 in
set_option maxHeartbeats 1000000 in
theorem with_any (v cnt p : Int) (q n c : Nat) (A : Option Addr) (fs : List Int) (lo hi : Nat) (w : World) (hs : Seg w lo hi A fs) (hB : hi ≤ w.heap.size) (hn : fs.length = n) (h60 : n ≤ 60) (hv : 0 ≤ v ∧ v ≤ 60000) (hp : 0 ≤ p ∧ p ≤ 1000) :
    Calls Try.prog 126 #[.agg #[.int .i64 v, .slice A n c, .int .i64 cnt], .int .i64 (q : Int), .int .i64 p] w (RetB3 (v + p) ((q : Int) :: fs) cnt w) := by
  obtain ⟨i0, hi0, hz0, hz1, hz2⟩ := info_parts int_info
  obtain ⟨hv1, hv2⟩ := hv
  obtain ⟨hp1, hp2⟩ := hp
  have HN := Lib.hid hn
  clear hn
  go_enter Try.func126, Try.ntmps126
  go_wp2_with fail
  obtain ⟨W, hW⟩ : ∃ W, (w.alloc (.cells #[.int .i64 v, .slice A n c, .int .i64 cnt] 94)).alloc (.cells #[.int .i64 0, .slice none 0 0, .int .i64 0] 94) = W := ⟨_, rfl⟩
  have HBW := Lib.hid (show Below w.heap.size w W by rw [← hW]; exact ((Below.refl _ _).alloc (Nat.le_refl _) _).alloc (by simp) _)
  have HLW := Lib.hid (show w.heap.size < W.heap.size ∧ w.heap.size + 1 < W.heap.size by rw [← hW, World.size_alloc, World.size_alloc]; omega)
  have HVP := Lib.hid (show IntKind.i64.wrap (v + p) = v + p from IntWalk.i64_in _ (by omega))
  have HRW := Lib.hid (show W.heap[w.heap.size + 1]? = some (.cells #[.int .i64 0, .slice none 0 0, .int .i64 0] 94 (0, 0)) by rw [← hW]; exact new_at _ _ (by simp))
  have HCW := Lib.hid (show Cut3 W w.heap.size v A n c cnt by rw [← hW]; exact Cut3.of ((alloc_old _ (by simp) _).trans (new_at _ _ rfl)))
  have HC1 := Lib.hid (show Cut3 (W.drew.alloc (.cells #[.int .i64 (q : Int)] 3)) w.heap.size v A n c cnt from HCW.out.below (B := W.heap.size) (w' := W.alloc (.cells #[.int .i64 (q : Int)] 3)) ((Below.refl _ _).alloc (Nat.le_refl _) _) HLW.out.1)
  have HOW := Lib.hid (show (W.drew.alloc (.cells #[.int .i64 (q : Int)] 3)).ownsRow W.heap.size 3 1 (.slice (some ⟨W.heap.size, 0, none⟩) 1 1) 1 [.int .i64 (q : Int)] from World.ownsRow_lit W.drew #[.int .i64 (q : Int)] 1 (Nat.le_refl _) (by decide) rfl)
  have HSG := Lib.hid (show Seg (W.drew.alloc (.cells #[.int .i64 (q : Int)] 3)) lo hi A fs from (hs.below HBW.out hB).below (B := W.heap.size) (w' := W.alloc (.cells #[.int .i64 (q : Int)] 3)) ((Below.refl _ _).alloc (Nat.le_refl _) _) (Nat.le_trans hB HBW.out.size))
  have hS := HCW.out
  rw [hW]
  clear hW hs
  refine wp_region_held_drew (S := (fun wq => Cut3 wq w.heap.size v A n c cnt)) (by kernel_rfl) hS (fun hH0 => ?_)
  refine wpAnyH_take (i := 0) (v := ?_) (ops_at rfl) (by kernel_rfl) (by kernel_rfl) (by kernel_rfl) (fun _ _ _ h => h) (Or.inl ⟨by rfl, ?ya0⟩) (by assumption) ?na0
  case ya0 => (intro wS hSw; (try dsimp only [Cut3] at hSw); go_simp; try rfl)
  try simp only [Act.put, List.setIfInBounds_toArray, List.set_cons_zero, List.set_cons_succ]
  refine wpAnyH_take (i := 1) (v := ?_) (ops_at rfl) (by kernel_rfl) (by kernel_rfl) (by kernel_rfl) (fun _ _ _ h => h) (Or.inl ⟨by rfl, ?ya1⟩) (by assumption) ?na1
  case ya1 => (intro wS hSw; (try dsimp only [Cut3] at hSw); go_simp; try rfl)
  try simp only [Act.put, List.setIfInBounds_toArray, List.set_cons_zero, List.set_cons_succ]
  refine wpAnyH_take (i := 2) (v := ?_) (ops_at rfl) (by kernel_rfl) (by kernel_rfl) (by kernel_rfl) (fun _ _ _ h => h) (Or.inl ⟨by rfl, ?ya2⟩) (by assumption) ?na2
  case ya2 => (intro wS hSw; (try dsimp only [Cut3] at hSw); go_simp; try rfl)
  try simp only [Act.put, List.setIfInBounds_toArray, List.set_cons_zero, List.set_cons_succ]
  refine wpAnyH_take (i := 3) (v := ?_) (ops_at rfl) (by kernel_rfl) (by kernel_rfl) (by kernel_rfl) (fun _ _ _ h => h) (Or.inl ⟨by rfl, ?ya3⟩) (by assumption) ?na3
  case ya3 => (intro wS hSw; (try dsimp only [Cut3] at hSw); go_simp; try rfl)
  try simp only [Act.put, List.setIfInBounds_toArray, List.set_cons_zero, List.set_cons_succ]
  refine wpAnyH_take (i := 4) (v := ?_) (ops_at rfl) (by kernel_rfl) (by kernel_rfl) (by kernel_rfl) (fun _ _ _ h => h) (Or.inl ⟨by rfl, ?ya4⟩) (by assumption) ?na4
  case ya4 => (intro wS hSw; (try dsimp only [Cut3] at hSw); go_simp; try rfl)
  try simp only [Act.put, List.setIfInBounds_toArray, List.set_cons_zero, List.set_cons_succ]
  refine wpAnyH_take (i := 6) (v := ?_) (ops_at rfl) (by kernel_rfl) (by kernel_rfl) (by kernel_rfl) (fun _ _ _ h => h) (Or.inl ⟨by rfl, ?ya6⟩) (by assumption) ?na6
  case ya6 => (intro wS hSw; (try dsimp only [Cut3] at hSw); go_simp; try rfl)
  try simp only [Act.put, List.setIfInBounds_toArray, List.set_cons_zero, List.set_cons_succ]
  refine wpAnyH_take (i := 7) (v := ?_) (ops_at rfl) (by kernel_rfl) (by kernel_rfl) (by kernel_rfl) (fun _ _ _ h => h) (Or.inl ⟨by rfl, ?ya7⟩) (by assumption) ?na7
  case ya7 => (intro wS hSw; (try dsimp only [Cut3] at hSw); go_simp; try rfl)
  try simp only [Act.put, List.setIfInBounds_toArray, List.set_cons_zero, List.set_cons_succ]
  refine wpAnyH_take (i := 9) (v := ?_) (ops_at rfl) (by kernel_rfl) (by kernel_rfl) (by kernel_rfl) (fun _ _ _ h => h) (Or.inl ⟨by rfl, ?ya9⟩) (by assumption) ?na9
  case ya9 => (intro wS hSw; (try dsimp only [Cut3] at hSw); go_simp; try rfl)
  try simp only [Act.put, List.setIfInBounds_toArray, List.set_cons_zero, List.set_cons_succ]
  refine wpAnyH_take (i := 10) (v := ?_) (ops_at rfl) (by kernel_rfl) (by kernel_rfl) (by kernel_rfl) (fun _ _ _ h => h) (Or.inl ⟨by rfl, ?ya10⟩) (by assumption) ?na10
  case ya10 => (intro wS hSw; (try dsimp only [Cut3] at hSw); go_simp; try rfl)
  try simp only [Act.put, List.setIfInBounds_toArray, List.set_cons_zero, List.set_cons_succ]
  refine wpAnyH_ready (rs := [5]) (by kernel_rfl) (by simp) ?_
  refine AllReadyH.cons (ops_at rfl) (fun K hK => ?_) AllReadyH.nil
  go_simp
  refine hK.out _ _ (HC1.out) (fun hHa => ?_)
  clear hK K
  refine wpAnyH_ready (rs := [8]) (by kernel_rfl) (by simp) ?_
  refine AllReadyH.cons (ops_at rfl) (fun K hK => ?_) AllReadyH.nil
  refine step_append_seg _ rfl (.tmp 12) (.tmp 14) 22 rfl W.heap.size 3 i0 Try.underlying22 hi0 hz0 hz1 hz2 _ 1 _ rfl HOW.out _ n c fs _ _ rfl HN.out HSG.out (by omega) (by simp) ?_
  intro v3 w2 hown2 hgrow2
  have hgr : (W.alloc (.cells #[.int .i64 (q : Int)] 3)).grownBy w2 (some W.heap.size) := ⟨hgrow2.os, hgrow2.tape, hgrow2.output, hgrow2.size, hgrow2.block⟩
  have hbW2 : Below W.heap.size W w2 := ((Below.refl _ _).alloc (Nat.le_refl _) _).grown hgr (by simp) (fun g hg => by injection hg with hg; omega)
  have hown3 : w2.ownsRow W.heap.size 3 1 v3 ((q : Int) :: fs).length (((q : Int) :: fs).map (Value.int .i64)) := by
    rw [List.length_cons, HN.out, Nat.add_comm n 1]
    exact hown2
  obtain ⟨A3, c3, rfl⟩ := ownsRow_form hown3
  have HOW3 := Lib.hid hown3
  have hc2 := HCW.out.below hbW2 HLW.out.1
  have hr2 := (hbW2.block (w.heap.size + 1) HLW.out.2).trans HRW.out
  refine hK.out _ _ hc2 (fun hHb => ?_)
  clear hK K hown2 hgrow2 hown3
  refine wpAnyH_take (i := 11) (v := ?_) (ops_at rfl) (by kernel_rfl) (by kernel_rfl) (by kernel_rfl) (fun _ _ _ h => h) (Or.inl ⟨by rfl, ?yb11⟩) (by assumption) ?nb11
  case yb11 => (intro wS hSw; (try dsimp only [Cut3] at hSw); go_simp; try rfl)
  try simp only [Act.put, List.setIfInBounds_toArray, List.set_cons_zero, List.set_cons_succ]
  obtain ⟨r0, r1, r2⟩ := Cut3.of hr2
  have f0 := frozen_of hr2 0
  have f1 := frozen_of hr2 1
  have f2 := frozen_of hr2 2
  refine wpAnyH_ready (rs := [12]) (by kernel_rfl) (by simp) ?_
  refine AllReadyH.cons (ops_at rfl) (fun K hK => ?_) AllReadyH.nil
  go_simp
  rw [HVP.out]
  refine hK.out _ _ (cut3_far hc2 _ _ _) (fun hHc => ?_)
  clear hK K
  refine wpAnyH_done (by kernel_rfl) ?_ _
  go_wp2
  have hr3 := set_self (set_self (set_self hr2 0 (.int .i64 (v + p))) 1 (.slice A3 (fs.length + 1) c3)) 2 (.int .i64 cnt)
  obtain ⟨s0, s1, s2⟩ := Cut3.of hr3
  refine bodyPost_ret (v := .agg #[.int .i64 (v + p), .slice A3 (fs.length + 1) c3, .int .i64 cnt]) (by simp [results, Try.results126, go_sem, s0, s1, s2]) rfl ?_
  exact ⟨A3, c3, by rw [List.length_cons], (own_far (ownsRow_own HOW3.out).2 (by have := HLW.out.2; omega) _ _ _).more (by have := HLW.out.2; omega) (by simp [World.setCell]), below_set3 ((HBW.out).trans (hbW2.mono HBW.out.size)) (Nat.le_succ _) _ _ _⟩

/-- What becomes of two entries. -/
def AndH (t : Bool) (x y bw bc lw lc : Int) : Prop :=
  (t = true ∧ (bc = 0 ∨ bc ≠ 0 ∧ bw < lw) ∧ x = lw ∧ y = lc) ∨ (t = false ∧ bc ≠ 0 ∧ x = bw ∧ ((lw = bw ∧ y = bc + lc) ∨ (lw < bw ∧ y = bc)))

def RetA (t : Bool) (x y : Int) (bA lA : Option Addr) (bn bk ln lk : Nat) (w : World) (e : Ending) (w' : World) : Prop :=
  ∃ X xn xk, e = .returned (.agg #[.int .i64 x, .slice X xn xk, .int .i64 y]) ∧ ((t = true ∧ X = lA ∧ xn = ln ∧ xk = lk) ∨ (t = false ∧ X = bA ∧ xn = bn ∧ xk = bk)) ∧ Below w.heap.size w w'

theorem and_any (t : Bool) (x y bw bc lw lc : Int) (bA lA : Option Addr) (bn bk ln lk : Nat) (w : World) (h : AndH t x y bw bc lw lc) (hc : 0 ≤ bc ∧ 0 ≤ lc ∧ bc + lc ≤ 1152921504606846976) :
    Calls Try.prog 127 #[.agg #[.int .i64 bw, .slice bA bn bk, .int .i64 bc], .agg #[.int .i64 lw, .slice lA ln lk, .int .i64 lc]] w (RetA t x y bA lA bn bk ln lk w) := by
  rcases h with ⟨rfl, h, rfl, rfl⟩ | ⟨rfl, h, rfl, ⟨h2, rfl⟩ | ⟨h2, rfl⟩⟩
  · rcases h with h | ⟨h, h2⟩
    · exact (and_none bw bc x y bA lA bn bk ln lk w h).mono fun _ _ ⟨h1, h2⟩ => ⟨_, _, _, h1, .inl ⟨rfl, rfl, rfl, rfl⟩, h2⟩
    · exact (and_more bw bc x y bA lA bn bk ln lk w h h2).mono fun _ _ ⟨h1, h2⟩ => ⟨_, _, _, h1, .inl ⟨rfl, rfl, rfl, rfl⟩, h2⟩
  · exact (and_same x bc lw lc bA lA bn bk ln lk w h h2 hc).mono fun _ _ ⟨h1, h2⟩ => ⟨_, _, _, h1, .inr ⟨rfl, rfl, rfl, rfl⟩, h2⟩
  · exact (and_less x y lw lc bA lA bn bk ln lk w h h2).mono fun _ _ ⟨h1, h2⟩ => ⟨_, _, _, h1, .inr ⟨rfl, rfl, rfl, rfl⟩, h2⟩

theorem step_and {p : Int} {q n : Nat} {a b e : Ent} {m : Nat} (he : e = combE p q a b) (ga : GoodE q m a) (gb : GoodE (q + 1) n b) (hp : 0 ≤ p) :
    ∃ t x y, wz e = x ∧ e.count = y ∧ (t = true → e.first = b.first) ∧ (t = false → e.first = (q : Int) :: a.first) ∧ AndH t x y (wz a + p) a.count (wz b) b.count := by
  subst he
  unfold combE
  by_cases c1 : a.worth < 0
  · rw [if_pos c1]
    refine ⟨true, _, _, rfl, rfl, fun _ => rfl, (fun h => by cases h), .inl ⟨rfl, .inl ?_, rfl, rfl⟩⟩
    rcases ga.1 with ⟨_, h, _⟩ | ⟨h, _⟩
    · exact h
    · omega
  · rw [if_neg c1]
    have hac : a.count ≠ 0 := by
      rcases ga.1 with ⟨h, _⟩ | ⟨_, _, h, _⟩ <;> omega
    have hwa : wz a = a.worth := by unfold wz; rw [if_neg c1]
    rw [hwa]
    by_cases c2 : b.worth < a.worth + p
    · rw [if_pos c2]
      have hwe : wz ⟨a.worth + p, a.count, (q : Int) :: a.first⟩ = a.worth + p := by unfold wz; rw [if_neg (by simp only; omega)]
      refine ⟨false, _, _, hwe, rfl, (fun h => by cases h), fun _ => rfl, .inr ⟨rfl, hac, rfl, ?_⟩⟩
      by_cases c3 : b.worth < 0
      · have hwb : wz b = 0 := by unfold wz; rw [if_pos c3]
        have hbc : b.count = 0 := by rcases gb.1 with ⟨_, h, _⟩ | ⟨h, _⟩ <;> omega
        rw [hwb, hbc]
        by_cases c4 : a.worth + p = 0
        · exact .inl ⟨c4.symm, by show a.count = a.count + 0; omega⟩
        · exact .inr ⟨by omega, rfl⟩
      · have hwb : wz b = b.worth := by unfold wz; rw [if_neg c3]
        rw [hwb]
        exact .inr ⟨c2, rfl⟩
    · rw [if_neg c2]
      have hwb : wz b = b.worth := by unfold wz; rw [if_neg (by omega)]
      rw [hwb]
      by_cases c3 : b.worth = a.worth + p
      · rw [if_pos c3]
        have hwe : wz ⟨b.worth, b.count + a.count, (q : Int) :: a.first⟩ = a.worth + p := by unfold wz; rw [if_neg (by simp only; omega)]; exact c3
        exact ⟨false, _, _, hwe, rfl, (fun h => by cases h), fun _ => rfl, .inr ⟨rfl, hac, rfl, .inl ⟨c3, Int.add_comm _ _⟩⟩⟩
      · rw [if_neg c3]
        exact ⟨true, _, _, rfl, rfl, fun _ => rfl, (fun h => by cases h), .inl ⟨rfl, .inr ⟨hac, by omega⟩, hwb, rfl⟩⟩

theorem cuts_info : (Try.prog.info? 94).map (fun i => (i.zero, i.size, i.bytes)) = some (some (.agg #[.int .i64 0, .slice none 0 0, .int .i64 0]), 3, 40) := by kernel_rfl

theorem make_cuts (n : Nat) (hn : n ≤ 1048576) (W : World) : (Instr.makeSlice 143 (.int .i64 (n : Int)) (.int .i64 (n : Int))).run Try.prog W =
    .ok (.slice (some ⟨W.heap.size, 0, none⟩) n n) (W.alloc (.cells (madeCells #[.int .i64 0, .slice none 0 0, .int .i64 0] (n * 3)) 94)) := by
  obtain ⟨i, hi, hz, hs, hb⟩ := info_parts cuts_info
  have h := run_make (P := Try.prog) W 143 94 i _ Try.underlying143 hi hz .i64 .i64 (n : Int) (n : Int) (by omega) (by omega) (by rw [hb]; omega) (by omega)
  simpa [hs, Value.cells] using h

/-- The cells of one entry. -/
def Ent3 (wq : World) (g k : Nat) (v : Int) (A : Option Addr) (n c : Nat) (cnt : Int) : Prop :=
  wq.cell? ⟨g, k * 3, none⟩ = some (.int .i64 v) ∧ wq.cell? ⟨g, k * 3 + 1, none⟩ = some (.slice A n c) ∧ wq.cell? ⟨g, k * 3 + 2, none⟩ = some (.int .i64 cnt)

theorem Ent3.below {B : Nat} {w w' : World} {g k : Nat} {v : Int} {A : Option Addr} {n c : Nat} {cnt : Int} (h : Ent3 w g k v A n c cnt) (hb : Below B w w') (hl : g < B) : Ent3 w' g k v A n c cnt :=
  ⟨(hb.cell (p := ⟨g, k * 3, none⟩) hl).trans h.1, (hb.cell (p := ⟨g, k * 3 + 1, none⟩) hl).trans h.2.1, (hb.cell (p := ⟨g, k * 3 + 2, none⟩) hl).trans h.2.2⟩
end Go.Proofs.Ythlhpddfifpkeab

/-
  The written program's walk through all nestings, in their order.
  Conditions: there are boxes.
-/
import Derived.Test.YtbaofgbkcolmmabNesS
import Derived.Test.YtbaofgbkcolmmabAppendB
import Derived.Lib.MinMax
namespace Go.Proofs.Ytbaofgbkcolmmab
set_option linter.unusedVariables false
open Go.RowKit

theorem pile_cells {w : World} {P T : Nat} {a b : Value} (h : w.heap[P]? = some (.cells #[a, b] T (0, 0))) : w.cell? ⟨P, 0, none⟩ = some a ∧ w.cell? ⟨P, 1, none⟩ = some b ∧ w.frozen? ⟨P, 0, none⟩ = false ∧ w.frozen? ⟨P, 1, none⟩ = false :=
  ⟨cell_of h 0, cell_of h 1, frozen_of h 0, frozen_of h 1⟩

/-- One box more has been put. -/
def RetGo (P T base : Nat) (a v : Value) (m : Nat) (ks : List Int) (w : World) (e : Ending) (w' : World) : Prop :=
  e = .returned (.tuple #[]) ∧ ∃ v', w'.heap[P]? = some (.cells #[a, v'] T (0, 0)) ∧ w'.ownsRow base 3 1 v' m (ks.map (Value.int .i64)) ∧ v'.ownBlock ≠ some P ∧
    Only (fun b => b = P ∨ v.ownBlock = some b) w w' ∧ (v'.ownBlock = v.ownBlock ∨ v'.ownBlock = some (w.heap.size + 1))

theorem only_grown {S : Nat → Prop} {a w w' : World} {row : Option Nat} (h : Only S a w) (hg : w.grownBy w' row) (hr : ∀ b, row = some b → S b) : Only S a w' :=
  h.trans ⟨hg.os, hg.tape, hg.output, hg.size, fun k hk hs => hg.block k hk (fun e => hs (hr k e.symm))⟩

set_option maxHeartbeats 1000000 in
theorem goOn2_any (P T base : Nat) (a v : Value) (m : Nat) (ks : List Int) (k : Int) (w : World) (hp : w.heap[P]? = some (.cells #[a, v] T (0, 0))) (hown : w.ownsRow base 3 1 v m (ks.map (Value.int .i64))) (hne : v.ownBlock ≠ some P) (hm : m ≤ 1048576) (hbase : base ≤ w.heap.size) :
    Calls Try.prog 121 #[.pointer (some ⟨P, 0, none⟩), .int .i64 k] w (RetGo P T base a v (m + 1) (ks ++ [k]) w) := by
  obtain ⟨i0, hi0, hz0, hz1, hz2⟩ := info_parts int_info
  obtain ⟨A0, d0, rfl⟩ := ownsRow_form hown
  obtain ⟨c0, c1, f0, f1⟩ := pile_cells hp
  have hP := heap_lt hp
  have HP1 := Lib.hid ((alloc_old w hP (.cells #[.int .i64 k] 3)).trans hp)
  have HOW := Lib.hid (hown.alloc (.cells #[.int .i64 k] 3))
  have HLT := Lib.hid hown.lt
  have HNE := Lib.hid hne
  clear hp hown hne
  go_enter Try.func121, Try.ntmps121
  go_wp2_with (at_builtin; refine wpList_append_ownB _ rfl _ _ 30 rfl base 3 i0 Try.underlying30 hi0 hz0 hz1 hz2 _ m _ rfl HOW.out w.heap.size 1 (.int .i64 k) rfl (by rw [cell_of (heap_alloc_new w _)]; rfl) rfl hm (by simp; omega) ?_; intro v3 w3 hown3 hgr3 hloc3; obtain ⟨A3, c3, rfl⟩ := ownsRow_form hown3; have hp3 : w3.heap[P]? = some (.cells #[a, .slice A0 m d0] T (0, 0)) := (hgr3.block P (by simp; omega) (fun e => HNE.out e.symm)).trans HP1.out; obtain ⟨q0, q1, g0, g1⟩ := pile_cells hp3; have HP3 := Lib.hid hp3; have HO3 := Lib.hid hown3; have HG3 := Lib.hid hgr3; have HL3 := Lib.hid hloc3; clear hp3 hown3 hgr3 hloc3)
  go_end0
  have hl3 := HL3.out
  simp only [World.size_alloc] at hl3
  have hne3 : (Value.slice A3 (m + 1) c3).ownBlock ≠ some P := by
    rcases hl3 with h | h
    · rw [h]; exact HNE.out
    · rw [h]; intro e; injection e with e; omega
  have hg4 : w3.grownBy (w3.setCell ⟨P, 1, none⟩ (.slice A3 (m + 1) c3)) (some P) := grown_set (World.grownBy.refl w3 _) rfl _
  refine ⟨rfl, .slice A3 (m + 1) c3, ?_, ?_, hne3, ?_, hl3⟩
  · rw [set_self HP3.out 1 _]; rfl
  · have h := HO3.out.kept hg4 (by by_cases h : (Value.slice A3 (m + 1) c3).ownBlock = none <;> simp [h, hne3])
    rw [List.map_append]
    exact h
  · exact (only_grown ((Only.refl _ w).alloc _) HG3.out (fun b hb => .inr hb)).setCell (p := ⟨P, 1, none⟩) (.inl rfl) _

theorem goBack_end {w : World} {P T base g m d : Nat} {a : Value} {ks : List Int} {k : Int} (HP : w.heap[P]? = some (.cells #[a, .slice (some ⟨g, 0, none⟩) (m + 1) d] T (0, 0))) (HOW : w.ownsRow base 3 1 (.slice (some ⟨g, 0, none⟩) (m + 1) d) (m + 1) ((ks ++ [k]).map (Value.int .i64))) (hne : g ≠ P) (hmd : m + 1 ≤ d) :
    (w.setCell ⟨P, 1, none⟩ (.slice (some ⟨g, 0, none⟩) m d)).heap[P]? = some (.cells #[a, .slice (some ⟨g, 0, none⟩) m d] T (0, 0)) ∧
      (w.setCell ⟨P, 1, none⟩ (.slice (some ⟨g, 0, none⟩) m d)).ownsRow base 3 1 (.slice (some ⟨g, 0, none⟩) m d) m (ks.map (Value.int .i64)) ∧ Only (fun b => b = P) w (w.setCell ⟨P, 1, none⟩ (.slice (some ⟨g, 0, none⟩) m d)) := by
  have hg4 : w.grownBy (w.setCell ⟨P, 1, none⟩ (.slice (some ⟨g, 0, none⟩) m d)) (some P) := grown_set (World.grownBy.refl w _) rfl _
  refine ⟨by rw [set_self HP 1 _]; rfl, ?_, (Only.refl (fun b => b = P) w).setCell (p := ⟨P, 1, none⟩) (by rfl) _⟩
  have h := HOW.kept hg4 (.inr (by intro e; injection e with e; exact hne e))
  obtain ⟨h1, h0 | ⟨g', cap, cur, hv, hbg, hb, hnc, hcm, hcs, htk⟩⟩ := h
  · omega
  · injection hv with e1 e2 e3
    injection e1 with e1
    injection e1 with e1
    subst e1 e3
    refine ⟨by simp at h1 ⊢; omega, .inr ⟨g, d, cur, rfl, hbg, hb, by omega, hcm, hcs, ?_⟩⟩
    have : cur.toList.take (m * 1) = (cur.toList.take ((m + 1) * 1)).take (m * 1) := by rw [List.take_take, Nat.min_eq_left (by omega)]
    rw [this, htk, List.map_append, List.take_append_of_le_length (by simp at h1 ⊢; omega), List.take_of_length_le (by simp at h1 ⊢; omega)]

set_option maxHeartbeats 1000000 in
theorem goBack_any (P T base g m d : Nat) (a : Value) (ks : List Int) (k : Int) (w : World) (hp : w.heap[P]? = some (.cells #[a, .slice (some ⟨g, 0, none⟩) (m + 1) d] T (0, 0))) (hown : w.ownsRow base 3 1 (.slice (some ⟨g, 0, none⟩) (m + 1) d) (m + 1) ((ks ++ [k]).map (Value.int .i64))) (hne : g ≠ P) (hm : m ≤ 1048576) :
    Calls Try.prog 122 #[.pointer (some ⟨P, 0, none⟩)] w fun e w' => e = .returned (.tuple #[]) ∧ w'.heap[P]? = some (.cells #[a, .slice (some ⟨g, 0, none⟩) m d] T (0, 0)) ∧
      w'.ownsRow base 3 1 (.slice (some ⟨g, 0, none⟩) m d) m (ks.map (Value.int .i64)) ∧ Only (fun b => b = P) w w' := by
  obtain ⟨c0, c1, f0, f1⟩ := pile_cells hp
  have hmd : m + 1 ≤ d := by
    obtain ⟨_, h0 | ⟨g', cap, cur, hv, _, _, hnc, _⟩⟩ := hown
    · omega
    · injection hv with h1 h2 h3; omega
  have hmd2 : m ≤ d := by omega
  have hwr : IntKind.i64.wrap (((m + 1 : Nat) : Int) - 1) = (m : Int) := by rw [IntKind.wrap_i64]; omega
  have hwr2 : IntKind.i64.wrap (m : Int) = (m : Int) := by rw [IntKind.wrap_i64]; omega
  have HP := Lib.hid hp
  have HOW := Lib.hid hown
  clear hp hown
  go_enter Try.func122, Try.ntmps122
  go_wp2_with fail
  refine wp_region_held_drew (S := (fun _ => True)) (by kernel_rfl) trivial (fun hH0 => ?_)
  refine wpAnyH_take (i := 0) (v := ?_) (ops_at rfl) (by kernel_rfl) (by kernel_rfl) (by kernel_rfl) (fun _ _ _ h => h) (Or.inl ⟨by rfl, ?ya0⟩) (by assumption) ?na0
  case ya0 => (intro wS hSw; (try dsimp only at hSw); go_simp; try rfl)
  try simp only [Act.put, List.setIfInBounds_toArray, List.set_cons_zero, List.set_cons_succ]
  refine wpAnyH_take (i := 1) (v := ?_) (ops_at rfl) (by kernel_rfl) (by kernel_rfl) (by kernel_rfl) (fun _ _ _ h => h) (Or.inl ⟨by rfl, ?ya1⟩) (by assumption) ?na1
  case ya1 => (intro wS hSw; (try dsimp only at hSw); go_simp; try rfl)
  try simp only [Act.put, List.setIfInBounds_toArray, List.set_cons_zero, List.set_cons_succ]
  refine wpAnyH_take (i := 2) (v := ?_) (ops_at rfl) (by kernel_rfl) (by kernel_rfl) (by kernel_rfl) (fun _ _ _ h => h) (Or.inl ⟨by rfl, ?ya2⟩) (by assumption) ?na2
  case ya2 => (intro wS hSw; (try dsimp only at hSw); go_simp; try rfl)
  try simp only [Act.put, List.setIfInBounds_toArray, List.set_cons_zero, List.set_cons_succ]
  refine wpAnyH_take (i := 3) (v := ?_) (ops_at rfl) (by kernel_rfl) (by kernel_rfl) (by kernel_rfl) (fun _ _ _ h => h) (Or.inl ⟨by rfl, ?ya3⟩) (by assumption) ?na3
  case ya3 => (intro wS hSw; (try dsimp only at hSw); go_simp; try rfl)
  try simp only [Act.put, List.setIfInBounds_toArray, List.set_cons_zero, List.set_cons_succ]
  refine wpAnyH_take (i := 5) (v := ?_) (ops_at rfl) (by kernel_rfl) (by kernel_rfl) (by kernel_rfl) (fun _ _ _ h => h) (Or.inl ⟨by rfl, ?ya5⟩) (by assumption) ?na5
  case ya5 => (intro wS hSw; (try dsimp only at hSw); go_simp; try rfl)
  try simp only [Act.put, List.setIfInBounds_toArray, List.set_cons_zero, List.set_cons_succ]
  refine wpAnyH_take (i := 6) (v := ?_) (ops_at rfl) (by kernel_rfl) (by kernel_rfl) (by kernel_rfl) (fun _ _ _ h => h) (Or.inl ⟨by rfl, ?ya6⟩) (by assumption) ?na6
  case ya6 => (intro wS hSw; (try dsimp only at hSw); go_simp; try rfl)
  try simp only [Act.put, List.setIfInBounds_toArray, List.set_cons_zero, List.set_cons_succ]
  refine wpAnyH_take (i := 7) (v := ?_) (ops_at rfl) (by kernel_rfl) (by kernel_rfl) (by kernel_rfl) (fun _ _ _ h => h) (Or.inl ⟨by rfl, ?ya7⟩) (by assumption) ?na7
  case ya7 => (intro wS hSw; (try dsimp only at hSw); go_simp; try rfl)
  try simp only [Act.put, List.setIfInBounds_toArray, List.set_cons_zero, List.set_cons_succ]
  refine wpAnyH_ready (rs := [4, 8]) (by kernel_rfl) (by simp) ?_
  refine AllReadyH.cons (ops_at rfl) (fun K hK => ?_) (AllReadyH.cons (ops_at rfl) (fun K hK => ?_) AllReadyH.nil)
  · go_simp
    refine hK.out _ _ trivial (fun hH1 => ?_)
    clear hK K
    refine wpAnyH_ready (rs := [8]) (by kernel_rfl) (by simp) ?_
    refine AllReadyH.cons (ops_at rfl) (fun K hK => ?_) AllReadyH.nil
    go_simp
    refine hK.out _ _ trivial (fun hH2 => ?_)
    clear hK K
    refine wpAnyH_take (i := 9) (v := ?_) (ops_at rfl) (by kernel_rfl) (by kernel_rfl) (by kernel_rfl) (fun _ _ _ h => h) (Or.inl ⟨by rfl, ?yb9⟩) (by assumption) ?nb9
    case yb9 => (intro wS hSw; (try dsimp only at hSw); go_simp; try rfl)
    try simp only [Act.put, List.setIfInBounds_toArray, List.set_cons_zero, List.set_cons_succ]
    refine wpAnyH_take (i := 10) (v := ?_) (ops_at rfl) (by kernel_rfl) (by kernel_rfl) (by kernel_rfl) (fun _ _ _ h => h) (Or.inl ⟨by rfl, ?yb10⟩) (by assumption) ?nb10
    case yb10 => (intro wS hSw; (try dsimp only at hSw); go_simp; try rfl)
    try simp only [Act.put, List.setIfInBounds_toArray, List.set_cons_zero, List.set_cons_succ]
    refine wpAnyH_take (i := 11) (v := ?_) (ops_at rfl) (by kernel_rfl) (by kernel_rfl) (by kernel_rfl) (fun _ _ _ h => h) (Or.inl ⟨by rfl, ?yb11⟩) (by assumption) ?nb11
    case yb11 => (intro wS hSw; (try dsimp only at hSw); go_simp; try rfl)
    try simp only [Act.put, List.setIfInBounds_toArray, List.set_cons_zero, List.set_cons_succ]
    refine wpAnyH_take (i := 12) (v := ?_) (ops_at rfl) (by kernel_rfl) (by kernel_rfl) (by kernel_rfl) (fun _ _ _ h => h) (Or.inl ⟨by rfl, ?yb12⟩) (by assumption) ?nb12
    case yb12 => (intro wS hSw; (try dsimp only at hSw); go_simp; try rfl)
    try simp only [Act.put, List.setIfInBounds_toArray, List.set_cons_zero, List.set_cons_succ]
    refine wpAnyH_take (i := 13) (v := ?_) (ops_at rfl) (by kernel_rfl) (by kernel_rfl) (by kernel_rfl) (fun _ _ _ h => h) (Or.inl ⟨by rfl, ?yb13⟩) (by assumption) ?nb13
    case yb13 => (intro wS hSw; (try dsimp only at hSw); go_simp; try rfl)
    try simp only [Act.put, List.setIfInBounds_toArray, List.set_cons_zero, List.set_cons_succ]
    refine wpAnyH_ready (rs := [14]) (by kernel_rfl) (by simp) ?_
    refine AllReadyH.cons (ops_at rfl) (fun K hK => ?_) AllReadyH.nil
    go_simp
    refine hK.out _ _ trivial (fun hH3 => ?_)
    clear hK K
    refine wpAnyH_done (by kernel_rfl) ?_ _
    go_wp2
    go_end0
    have hE := goBack_end HP.out HOW.out hne hmd
    exact ⟨rfl, hE.1, hE.2.1, hE.2.2.drew⟩
  · go_simp
    refine hK.out _ _ trivial (fun hH1 => ?_)
    clear hK K
    refine wpAnyH_take (i := 9) (v := ?_) (ops_at rfl) (by kernel_rfl) (by kernel_rfl) (by kernel_rfl) (fun _ _ _ h => h) (Or.inl ⟨by rfl, ?yc9⟩) (by assumption) ?nc9
    case yc9 => (intro wS hSw; (try dsimp only at hSw); go_simp; try rfl)
    try simp only [Act.put, List.setIfInBounds_toArray, List.set_cons_zero, List.set_cons_succ]
    refine wpAnyH_take (i := 10) (v := ?_) (ops_at rfl) (by kernel_rfl) (by kernel_rfl) (by kernel_rfl) (fun _ _ _ h => h) (Or.inl ⟨by rfl, ?yc10⟩) (by assumption) ?nc10
    case yc10 => (intro wS hSw; (try dsimp only at hSw); go_simp; try rfl)
    try simp only [Act.put, List.setIfInBounds_toArray, List.set_cons_zero, List.set_cons_succ]
    refine wpAnyH_ready (rs := [4]) (by kernel_rfl) (by simp) ?_
    refine AllReadyH.cons (ops_at rfl) (fun K hK => ?_) AllReadyH.nil
    go_simp
    refine hK.out _ _ trivial (fun hH2 => ?_)
    clear hK K
    refine wpAnyH_take (i := 11) (v := ?_) (ops_at rfl) (by kernel_rfl) (by kernel_rfl) (by kernel_rfl) (fun _ _ _ h => h) (Or.inl ⟨by rfl, ?yd11⟩) (by assumption) ?nd11
    case yd11 => (intro wS hSw; (try dsimp only at hSw); go_simp; try rfl)
    try simp only [Act.put, List.setIfInBounds_toArray, List.set_cons_zero, List.set_cons_succ]
    refine wpAnyH_take (i := 12) (v := ?_) (ops_at rfl) (by kernel_rfl) (by kernel_rfl) (by kernel_rfl) (fun _ _ _ h => h) (Or.inl ⟨by rfl, ?yd12⟩) (by assumption) ?nd12
    case yd12 => (intro wS hSw; (try dsimp only at hSw); go_simp; try rfl)
    try simp only [Act.put, List.setIfInBounds_toArray, List.set_cons_zero, List.set_cons_succ]
    refine wpAnyH_take (i := 13) (v := ?_) (ops_at rfl) (by kernel_rfl) (by kernel_rfl) (by kernel_rfl) (fun _ _ _ h => h) (Or.inl ⟨by rfl, ?yd13⟩) (by assumption) ?nd13
    case yd13 => (intro wS hSw; (try dsimp only at hSw); go_simp; try rfl)
    try simp only [Act.put, List.setIfInBounds_toArray, List.set_cons_zero, List.set_cons_succ]
    refine wpAnyH_ready (rs := [14]) (by kernel_rfl) (by simp) ?_
    refine AllReadyH.cons (ops_at rfl) (fun K hK => ?_) AllReadyH.nil
    go_simp
    refine hK.out _ _ trivial (fun hH3 => ?_)
    clear hK K
    refine wpAnyH_done (by kernel_rfl) ?_ _
    go_wp2
    go_end0
    have hE := goBack_end HP.out HOW.out hne hmd
    exact ⟨rfl, hE.1, hE.2.1, hE.2.2.drew⟩

end Go.Proofs.Ytbaofgbkcolmmab

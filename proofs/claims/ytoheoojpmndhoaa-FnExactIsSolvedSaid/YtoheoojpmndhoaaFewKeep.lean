/-
  The written program keeps a plan that it has found.
  Conditions: at most nine things.
-/
import Derived.Test.YtoheoojpmndhoaaTakeBack
import Derived.Test.YtoheoojpmndhoaaCloneI
import Derived.Test.YtoheoojpmndhoaaFewM
import Derived.Test.YtoheoojpmndhoaaL1Own
import Derived.Deep.RegionHeld3
namespace Go.Proofs.Ytoheoojpmndhoaa
set_option linter.unusedVariables false
open Go.RowKit

/-- The plan that is kept, if there is one: in a block of its own. -/
def KeptAt (w : World) (P Bo Bp lo : Nat) (FV : Value) (fo : Option (List Int)) : Prop :=
  (fo = none ∧ FV = .slice none 0 0) ∨ ∃ p g c, fo = some p ∧ FV = .slice (some ⟨g, 0, none⟩) p.length c ∧ Own w g (g + 1) (some ⟨g, 0, none⟩) p ∧ g < w.heap.size ∧ lo ≤ g ∧ g ≠ P ∧ g ≠ Bo ∧ g ≠ Bp

theorem KeptAt.only {w w' : World} {P Bo Bp lo : Nat} {FV : Value} {fo : Option (List Int)} (h : KeptAt w P Bo Bp lo FV fo) (ho : Only (Three P Bo Bp) w w') : KeptAt w' P Bo Bp lo FV fo := by
  rcases h with h | ⟨p, g, c, h1, h2, h3, h4, h5, h6, h7, h8⟩
  · exact .inl h
  · refine .inr ⟨p, g, c, h1, h2, h3.only ho (by omega) (fun b hb => ?_), Nat.lt_of_lt_of_le h4 ho.size, h5, h6, h7, h8⟩
    rcases hb with rfl | rfl | rfl <;> omega

/-- The search's cells behind its packing. -/
def restV (TH : Value) (few : Nat) (FV : Value) (cnt : Nat) : List Value := [TH, .int .i64 (few : Int), FV, .int .i64 (cnt : Int)]

theorem Pk.rest_set {w : World} {P T Bo Bp cap : Nat} {room : Int} {ls pl : List Int} {rest : List Value} (h : Pk w P T Bo Bp cap room ls pl rest) (i : Nat) (v : Value) : Pk (w.setCell ⟨P, 5 + i, none⟩ v) P T Bo Bp cap room ls pl (rest.set i v) := by
  have n1 := h.ne1
  have n2 := h.ne2
  refine ⟨?_, h.boxes.keep (set_far _ (by exact Ne.symm n1) _), h.plan.keep (set_far _ (by exact Ne.symm n2) _), n1, n2, h.ne3, h.len1, h.len2, h.cap9⟩
  rw [set_self h.self _ _]
  congr 2
  apply Array.ext'
  have hl : (five Bo Bp cap room ls pl).length = 5 := rfl
  simp only [Array.toList_setIfInBounds]
  rw [List.set_append_right _ _ (by rw [hl]; omega), hl, Nat.add_sub_cancel_left]

set_option maxHeartbeats 4000000 in
set_option maxRecDepth 100000 in
theorem keep_new (P T Bo Bp cap lo : Nat) (room : Int) (ls pl : List Int) (TH FV : Value) (few cnt : Nat) (fo : Option (List Int)) (w : World) (h : Pk w P T Bo Bp cap room ls pl (restV TH few FV cnt)) (hk : KeptAt w P Bo Bp lo FV fo) (hlo : lo ≤ w.heap.size) (hpl : 0 < pl.length)
    (hc : fo = none ∨ ls.length < few) :
    Calls Try.prog 131 #[.pointer (some ⟨P, 0, none⟩)] w fun e w' => e = .returned (.tuple #[]) ∧ ∃ FV', Pk w' P T Bo Bp cap room ls pl (restV TH ls.length FV' 1) ∧ KeptAt w' P Bo Bp lo FV' (some pl) ∧ Only (Three P Bo Bp) w w' := by
  obtain ⟨f0, f1, f2, f3, f4⟩ := h.facts
  obtain ⟨hP, hBo, hBp⟩ := h.lt
  have hcap := h.cap9
  have hl2 := h.len2
  have c6 := h.cell 6
  have c7 := h.cell 7
  simp [five, restV] at c6 c7
  have hnil : ∀ (w : World) (a : Option Addr) (n c n' c' : Nat), (binOp .eql 39 (.slice a n c) (.slice none n' c')).run Try.prog w = .ok (.bool a.isNone) w := fun w a n c n' c' => Lib.run_eql_slice_nil w _ _ a n c n' c' Try.underlying39
  have HPK := Lib.hid h
  have HKA := Lib.hid hk
  have HSEG := Lib.hid (show Seg w Bp (Bp + 1) (some ⟨Bp, 0, none⟩) pl by
    obtain ⟨cs, hb, hs, hcp⟩ := h.plan
    refine .inr ⟨Bp, 0, rfl, Nat.le_refl _, Nat.lt_succ_self _, fun k hk => ?_⟩
    rw [cell_of hb, Nat.zero_add, hcp k _ (List.getElem?_eq_getElem hk)]
    simp [List.getD, hk])
  clear h
  by_cases hfo : FV = .slice none 0 0
  · subst hfo
    clear hk hc
    go_enter Try.func131, Try.ntmps131
    go_wp2_with fail
    go_quiet (fail)
    go_wp2_with fail
    refine wp_region_held_drew (S := (fun wq => wq.cell? ⟨P, 3, none⟩ = some (.slice (some ⟨Bo, 0, none⟩) ls.length cap) ∧ wq.cell? ⟨P, 4, none⟩ = some (.slice (some ⟨Bp, 0, none⟩) pl.length cap))) (by kernel_rfl) ⟨f3, f4⟩ (fun hH0 => ?_)
    refine wpAnyH_take (i := 0) (v := ?_) (ops_at rfl) (by kernel_rfl) (by kernel_rfl) (by kernel_rfl) (fun _ _ _ h => h) (Or.inl ⟨by rfl, ?yk0⟩) (by assumption) ?nk0
    case yk0 => (intro wS hSw; (try dsimp only at hSw); go_simp; try rfl)
    try simp only [Act.put, List.setIfInBounds_toArray, List.set_cons_zero, List.set_cons_succ]
    refine wpAnyH_take (i := 1) (v := ?_) (ops_at rfl) (by kernel_rfl) (by kernel_rfl) (by kernel_rfl) (fun _ _ _ h => h) (Or.inl ⟨by rfl, ?yk1⟩) (by assumption) ?nk1
    case yk1 => (intro wS hSw; (try dsimp only at hSw); go_simp; try rfl)
    try simp only [Act.put, List.setIfInBounds_toArray, List.set_cons_zero, List.set_cons_succ]
    refine wpAnyH_take (i := 2) (v := ?_) (ops_at rfl) (by kernel_rfl) (by kernel_rfl) (by kernel_rfl) (fun _ _ _ h => h) (Or.inl ⟨by rfl, ?yk2⟩) (by assumption) ?nk2
    case yk2 => (intro wS hSw; (try dsimp only at hSw); go_simp; try rfl)
    try simp only [Act.put, List.setIfInBounds_toArray, List.set_cons_zero, List.set_cons_succ]
    refine wpAnyH_take (i := 3) (v := ?_) (ops_at rfl) (by kernel_rfl) (by kernel_rfl) (by kernel_rfl) (fun _ _ _ h => h) (Or.inl ⟨by rfl, ?yk3⟩) (by assumption) ?nk3
    case yk3 => (intro wS hSw; (try dsimp only at hSw); go_simp; try rfl)
    try simp only [Act.put, List.setIfInBounds_toArray, List.set_cons_zero, List.set_cons_succ]
    refine wpAnyH_take (i := 4) (v := ?_) (ops_at rfl) (by kernel_rfl) (by kernel_rfl) (by kernel_rfl) (fun _ _ _ h => h) (Or.inl ⟨by rfl, ?yk4⟩) (by assumption) ?nk4
    case yk4 => (intro wS hSw; (try dsimp only at hSw); go_simp; try rfl)
    try simp only [Act.put, List.setIfInBounds_toArray, List.set_cons_zero, List.set_cons_succ]
    refine wpAnyH_take (i := 5) (v := ?_) (ops_at rfl) (by kernel_rfl) (by kernel_rfl) (by kernel_rfl) (fun _ _ _ h => h) (Or.inl ⟨by rfl, ?yk5⟩) (by assumption) ?nk5
    case yk5 => (intro wS hSw; (try dsimp only at hSw); go_simp; try rfl)
    try simp only [Act.put, List.setIfInBounds_toArray, List.set_cons_zero, List.set_cons_succ]
    refine wpAnyH_take (i := 6) (v := ?_) (ops_at rfl) (by kernel_rfl) (by kernel_rfl) (by kernel_rfl) (fun _ _ _ h => h) (Or.inl ⟨by rfl, ?yk6⟩) (by assumption) ?nk6
    case yk6 => (intro wS hSw; (try dsimp only at hSw); go_simp; try rfl)
    try simp only [Act.put, List.setIfInBounds_toArray, List.set_cons_zero, List.set_cons_succ]
    refine wpAnyH_take (i := 7) (v := ?_) (ops_at rfl) (by kernel_rfl) (by kernel_rfl) (by kernel_rfl) (fun _ _ _ h => h) (Or.inl ⟨by rfl, ?yk7⟩) (by assumption) ?nk7
    case yk7 => (intro wS hSw; (try dsimp only at hSw); go_simp; try rfl)
    try simp only [Act.put, List.setIfInBounds_toArray, List.set_cons_zero, List.set_cons_succ]
    refine wpAnyH_take (i := 8) (v := ?_) (ops_at rfl) (by kernel_rfl) (by kernel_rfl) (by kernel_rfl) (fun _ _ _ h => h) (Or.inl ⟨by rfl, ?yk8⟩) (by assumption) ?nk8
    case yk8 => (intro wS hSw; (try dsimp only at hSw); go_simp; try rfl)
    try simp only [Act.put, List.setIfInBounds_toArray, List.set_cons_zero, List.set_cons_succ]
    refine wpAnyH_take (i := 9) (v := ?_) (ops_at rfl) (by kernel_rfl) (by kernel_rfl) (by kernel_rfl) (fun _ _ _ h => h) (Or.inl ⟨by rfl, ?yk9⟩) (by assumption) ?nk9
    case yk9 => (intro wS hSw; (try dsimp only at hSw); go_simp; try rfl)
    try simp only [Act.put, List.setIfInBounds_toArray, List.set_cons_zero, List.set_cons_succ]
    refine wpAnyH_take (i := 10) (v := ?_) (ops_at rfl) (by kernel_rfl) (by kernel_rfl) (by kernel_rfl) (fun _ _ _ h => h) (Or.inl ⟨by rfl, ?yk10⟩) (by assumption) ?nk10
    case yk10 => (intro wS hSw; (try dsimp only at hSw); go_simp; try rfl)
    try simp only [Act.put, List.setIfInBounds_toArray, List.set_cons_zero, List.set_cons_succ]
    refine wpAnyH_take (i := 11) (v := ?_) (ops_at rfl) (by kernel_rfl) (by kernel_rfl) (by kernel_rfl) (fun _ _ _ h => h) (Or.inl ⟨by rfl, ?yk11⟩) (by assumption) ?nk11
    case yk11 => (intro wS hSw; (try dsimp only at hSw); go_simp; try rfl)
    try simp only [Act.put, List.setIfInBounds_toArray, List.set_cons_zero, List.set_cons_succ]
    refine wpAnyH_take (i := 12) (v := ?_) (ops_at rfl) (by kernel_rfl) (by kernel_rfl) (by kernel_rfl) (fun _ _ _ h => h) (Or.inl ⟨by rfl, ?yk12⟩) (by assumption) ?nk12
    case yk12 => (intro wS hSw; (try dsimp only at hSw); go_simp; try rfl)
    try simp only [Act.put, List.setIfInBounds_toArray, List.set_cons_zero, List.set_cons_succ]
    refine wpAnyH_take (i := 13) (v := ?_) (ops_at rfl) (by kernel_rfl) (by kernel_rfl) (by kernel_rfl) (fun _ _ _ h => h) (Or.inl ⟨by rfl, ?yk13⟩) (by assumption) ?nk13
    case yk13 => (intro wS hSw; (try dsimp only at hSw); go_simp; try rfl)
    try simp only [Act.put, List.setIfInBounds_toArray, List.set_cons_zero, List.set_cons_succ]
    refine wpAnyH_ready (rs := [14]) (by kernel_rfl) (by simp) ?_
    refine AllReadyH.cons (ops_at rfl) (fun K hK => ?_) AllReadyH.nil
    go_simp
    refine (cloneI_any ⟨Bp, 0, none⟩ pl.length cap pl Bp (Bp + 1) (w.drewN (nq + 1)) rfl (by omega) (show Seg (w.drewN (nq + 1)) Bp (Bp + 1) (some ⟨Bp, 0, none⟩) pl from HSEG.out) (show Bp + 1 ≤ w.heap.size by omega)).mono ?_
    rintro e w2 ⟨v2, rfl, hown2', hb2'⟩
    dsimp only
    have hb2 : Below w.heap.size w w2 := ⟨hb2'.os, hb2'.tape, hb2'.output, hb2'.size, hb2'.block⟩
    have hown2 : w2.ownsRow w.heap.size 3 1 v2 pl.length (pl.map (Value.int .i64)) := hown2'
    have hpk2 := HPK.out.belowAll hb2
    obtain ⟨gc, cc, rfl, hgc0, hgc1, _, _⟩ := ownsRow_head hown2 hpl
    have hcl : Own w2 gc (gc + 1) (some ⟨gc, 0, none⟩) pl := by
      rcases (ownsRow_own (ys := pl) hown2).2 with h | ⟨g', cs', T', e, h1, h2, h3, h4⟩
      · subst h; simp at hpl
      · injection e with e; injection e with e; subst e; exact .inr ⟨_, cs', T', rfl, Nat.le_refl _, Nat.lt_succ_self _, h3, h4⟩
    have hz2 := hb2.size
    clear hb2' hown2' hown2
    refine hK.out _ _ ⟨hpk2.facts.2.2.2.1, hpk2.facts.2.2.2.2⟩ (fun hH14 => ?_)
    clear hK K
    refine wpAnyH_take (i := 15) (v := ?_) (ops_at rfl) (by kernel_rfl) (by kernel_rfl) (by kernel_rfl) (fun _ _ _ h => h) (Or.inl ⟨by rfl, ?yk15⟩) (by assumption) ?nk15
    case yk15 => (intro wS hSw; (try dsimp only at hSw); go_simp; try rfl)
    try simp only [Act.put, List.setIfInBounds_toArray, List.set_cons_zero, List.set_cons_succ]
    refine wpAnyH_take (i := 16) (v := ?_) (ops_at rfl) (by kernel_rfl) (by kernel_rfl) (by kernel_rfl) (fun _ _ _ h => h) (Or.inl ⟨by rfl, ?yk16⟩) (by assumption) ?nk16
    case yk16 => (intro wS hSw; (try dsimp only at hSw); go_simp; try rfl)
    try simp only [Act.put, List.setIfInBounds_toArray, List.set_cons_zero, List.set_cons_succ]
    have x6 := hpk2.cell 6
    have z6 := hpk2.frozen 6
    simp [five, restV] at x6
    have hpk3 := hpk2.rest_set 1 (.int .i64 (ls.length : Int))
    refine wpAnyH_ready (rs := [17]) (by kernel_rfl) (by simp) ?_
    refine AllReadyH.cons (ops_at rfl) (fun K hK => ?_) AllReadyH.nil
    go_simp
    refine hK.out _ _ ⟨hpk3.facts.2.2.2.1, hpk3.facts.2.2.2.2⟩ (fun hH17 => ?_)
    clear hK K
    refine wpAnyH_take (i := 18) (v := ?_) (ops_at rfl) (by kernel_rfl) (by kernel_rfl) (by kernel_rfl) (fun _ _ _ h => h) (Or.inl ⟨by rfl, ?yk18⟩) (by assumption) ?nk18
    case yk18 => (intro wS hSw; (try dsimp only at hSw); go_simp; try rfl)
    try simp only [Act.put, List.setIfInBounds_toArray, List.set_cons_zero, List.set_cons_succ]
    refine wpAnyH_take (i := 19) (v := ?_) (ops_at rfl) (by kernel_rfl) (by kernel_rfl) (by kernel_rfl) (fun _ _ _ h => h) (Or.inl ⟨by rfl, ?yk19⟩) (by assumption) ?nk19
    case yk19 => (intro wS hSw; (try dsimp only at hSw); go_simp; try rfl)
    try simp only [Act.put, List.setIfInBounds_toArray, List.set_cons_zero, List.set_cons_succ]
    have x7 := hpk3.cell 7
    have z7 := hpk3.frozen 7
    simp [five, restV] at x7
    have hpk4 := hpk3.rest_set 2 (.slice (some ⟨gc, 0, none⟩) pl.length cc)
    refine wpAnyH_ready (rs := [20]) (by kernel_rfl) (by simp) ?_
    refine AllReadyH.cons (ops_at rfl) (fun K hK => ?_) AllReadyH.nil
    go_simp
    refine hK.out _ _ ⟨hpk4.facts.2.2.2.1, hpk4.facts.2.2.2.2⟩ (fun hH20 => ?_)
    clear hK K
    refine wpAnyH_take (i := 21) (v := ?_) (ops_at rfl) (by kernel_rfl) (by kernel_rfl) (by kernel_rfl) (fun _ _ _ h => h) (Or.inl ⟨by rfl, ?yk21⟩) (by assumption) ?nk21
    case yk21 => (intro wS hSw; (try dsimp only at hSw); go_simp; try rfl)
    try simp only [Act.put, List.setIfInBounds_toArray, List.set_cons_zero, List.set_cons_succ]
    refine wpAnyH_take (i := 22) (v := ?_) (ops_at rfl) (by kernel_rfl) (by kernel_rfl) (by kernel_rfl) (fun _ _ _ h => h) (Or.inl ⟨by rfl, ?yk22⟩) (by assumption) ?nk22
    case yk22 => (intro wS hSw; (try dsimp only at hSw); go_simp; try rfl)
    try simp only [Act.put, List.setIfInBounds_toArray, List.set_cons_zero, List.set_cons_succ]
    have x8 := hpk4.cell 8
    have z8 := hpk4.frozen 8
    simp [five, restV] at x8
    have hpk5 := hpk4.rest_set 3 (.int .i64 0)
    refine wpAnyH_ready (rs := [23]) (by kernel_rfl) (by simp) ?_
    refine AllReadyH.cons (ops_at rfl) (fun K hK => ?_) AllReadyH.nil
    go_simp
    refine hK.out _ _ ⟨hpk5.facts.2.2.2.1, hpk5.facts.2.2.2.2⟩ (fun hH23 => ?_)
    clear hK K
    refine wpAnyH_done (by kernel_rfl) ?_ _
    have x9 := hpk5.cell 8
    have z9 := hpk5.frozen 8
    simp [five, restV] at x9
    have hpk6 := hpk5.rest_set 3 (.int .i64 1)
    go_wp2_with fail
    go_end0
    have hka : KeptAt w2 P Bo Bp lo (.slice (some ⟨gc, 0, none⟩) pl.length cc) (some pl) := .inr ⟨pl, gc, cc, rfl, rfl, hcl, hgc1, by omega, by omega, by omega, by omega⟩
    have ho2 : Only (Three P Bo Bp) w2 ((((w2.setCell ⟨P, 6, none⟩ (.int .i64 (ls.length : Int))).setCell ⟨P, 7, none⟩ (.slice (some ⟨gc, 0, none⟩) pl.length cc)).setCell ⟨P, 8, none⟩ (.int .i64 0)).setCell ⟨P, 8, none⟩ (.int .i64 1)) :=
      ((((Only.refl _ _).setCell (p := ⟨P, 6, none⟩) (Or.inl rfl) _).setCell (p := ⟨P, 7, none⟩) (Or.inl rfl) _).setCell (p := ⟨P, 8, none⟩) (Or.inl rfl) _).setCell (p := ⟨P, 8, none⟩) (Or.inl rfl) _
    exact ⟨rfl, _, hpk6, hka.only ho2, (Only.of_below hb2 (Nat.le_refl _)).trans ho2⟩
  · obtain ⟨p, g, c, rfl, rfl, _⟩ : ∃ p g c, fo = some p ∧ FV = .slice (some ⟨g, 0, none⟩) p.length c ∧ True := by
      rcases hk with ⟨_, h⟩ | ⟨p, g, c, h1, h2, _⟩
      · exact absurd h hfo
      · exact ⟨p, g, c, h1, h2, trivial⟩
    have hlt : ls.length < few := by rcases hc with h | h; · cases h
                                     · exact h
    have hd : decide ((ls.length : Int) < (few : Int)) = true := decide_eq_true (by omega)
    clear hk hc hfo
    go_enter Try.func131, Try.ntmps131
    go_wp2_with fail
    go_quiet (fail)
    go_wp2_with fail
    refine wp_region_held_drew (S := (fun wq => wq.cell? ⟨P, 3, none⟩ = some (.slice (some ⟨Bo, 0, none⟩) ls.length cap) ∧ wq.cell? ⟨P, 4, none⟩ = some (.slice (some ⟨Bp, 0, none⟩) pl.length cap))) (by kernel_rfl) ⟨f3, f4⟩ (fun hH0 => ?_)
    refine wpAnyH_take (i := 0) (v := ?_) (ops_at rfl) (by kernel_rfl) (by kernel_rfl) (by kernel_rfl) (fun _ _ _ h => h) (Or.inl ⟨by rfl, ?ym0⟩) (by assumption) ?nm0
    case ym0 => (intro wS hSw; (try dsimp only at hSw); go_simp; try rfl)
    try simp only [Act.put, List.setIfInBounds_toArray, List.set_cons_zero, List.set_cons_succ]
    refine wpAnyH_take (i := 1) (v := ?_) (ops_at rfl) (by kernel_rfl) (by kernel_rfl) (by kernel_rfl) (fun _ _ _ h => h) (Or.inl ⟨by rfl, ?ym1⟩) (by assumption) ?nm1
    case ym1 => (intro wS hSw; (try dsimp only at hSw); go_simp; try rfl)
    try simp only [Act.put, List.setIfInBounds_toArray, List.set_cons_zero, List.set_cons_succ]
    refine wpAnyH_take (i := 2) (v := ?_) (ops_at rfl) (by kernel_rfl) (by kernel_rfl) (by kernel_rfl) (fun _ _ _ h => h) (Or.inl ⟨by rfl, ?ym2⟩) (by assumption) ?nm2
    case ym2 => (intro wS hSw; (try dsimp only at hSw); go_simp; try rfl)
    try simp only [Act.put, List.setIfInBounds_toArray, List.set_cons_zero, List.set_cons_succ]
    refine wpAnyH_take (i := 3) (v := ?_) (ops_at rfl) (by kernel_rfl) (by kernel_rfl) (by kernel_rfl) (fun _ _ _ h => h) (Or.inl ⟨by rfl, ?ym3⟩) (by assumption) ?nm3
    case ym3 => (intro wS hSw; (try dsimp only at hSw); go_simp; try rfl)
    try simp only [Act.put, List.setIfInBounds_toArray, List.set_cons_zero, List.set_cons_succ]
    refine wpAnyH_take (i := 4) (v := ?_) (ops_at rfl) (by kernel_rfl) (by kernel_rfl) (by kernel_rfl) (fun _ _ _ h => h) (Or.inl ⟨by rfl, ?ym4⟩) (by assumption) ?nm4
    case ym4 => (intro wS hSw; (try dsimp only at hSw); go_simp; try rfl)
    try simp only [Act.put, List.setIfInBounds_toArray, List.set_cons_zero, List.set_cons_succ]
    refine wpAnyH_take (i := 5) (v := ?_) (ops_at rfl) (by kernel_rfl) (by kernel_rfl) (by kernel_rfl) (fun _ _ _ h => h) (Or.inl ⟨by rfl, ?ym5⟩) (by assumption) ?nm5
    case ym5 => (intro wS hSw; (try dsimp only at hSw); go_simp; try rfl)
    try simp only [Act.put, List.setIfInBounds_toArray, List.set_cons_zero, List.set_cons_succ]
    refine wpAnyH_take (i := 6) (v := ?_) (ops_at rfl) (by kernel_rfl) (by kernel_rfl) (by kernel_rfl) (fun _ _ _ h => h) (Or.inl ⟨by rfl, ?ym6⟩) (by assumption) ?nm6
    case ym6 => (intro wS hSw; (try dsimp only at hSw); go_simp; try rfl)
    try simp only [Act.put, List.setIfInBounds_toArray, List.set_cons_zero, List.set_cons_succ]
    refine wpAnyH_take (i := 7) (v := ?_) (ops_at rfl) (by kernel_rfl) (by kernel_rfl) (by kernel_rfl) (fun _ _ _ h => h) (Or.inl ⟨by rfl, ?ym7⟩) (by assumption) ?nm7
    case ym7 => (intro wS hSw; (try dsimp only at hSw); go_simp; try rfl)
    try simp only [Act.put, List.setIfInBounds_toArray, List.set_cons_zero, List.set_cons_succ]
    refine wpAnyH_take (i := 8) (v := ?_) (ops_at rfl) (by kernel_rfl) (by kernel_rfl) (by kernel_rfl) (fun _ _ _ h => h) (Or.inl ⟨by rfl, ?ym8⟩) (by assumption) ?nm8
    case ym8 => (intro wS hSw; (try dsimp only at hSw); go_simp; try rfl)
    try simp only [Act.put, List.setIfInBounds_toArray, List.set_cons_zero, List.set_cons_succ]
    refine wpAnyH_take (i := 9) (v := ?_) (ops_at rfl) (by kernel_rfl) (by kernel_rfl) (by kernel_rfl) (fun _ _ _ h => h) (Or.inl ⟨by rfl, ?ym9⟩) (by assumption) ?nm9
    case ym9 => (intro wS hSw; (try dsimp only at hSw); go_simp; try rfl)
    try simp only [Act.put, List.setIfInBounds_toArray, List.set_cons_zero, List.set_cons_succ]
    refine wpAnyH_take (i := 10) (v := ?_) (ops_at rfl) (by kernel_rfl) (by kernel_rfl) (by kernel_rfl) (fun _ _ _ h => h) (Or.inl ⟨by rfl, ?ym10⟩) (by assumption) ?nm10
    case ym10 => (intro wS hSw; (try dsimp only at hSw); go_simp; try rfl)
    try simp only [Act.put, List.setIfInBounds_toArray, List.set_cons_zero, List.set_cons_succ]
    refine wpAnyH_take (i := 11) (v := ?_) (ops_at rfl) (by kernel_rfl) (by kernel_rfl) (by kernel_rfl) (fun _ _ _ h => h) (Or.inl ⟨by rfl, ?ym11⟩) (by assumption) ?nm11
    case ym11 => (intro wS hSw; (try dsimp only at hSw); go_simp; try rfl)
    try simp only [Act.put, List.setIfInBounds_toArray, List.set_cons_zero, List.set_cons_succ]
    refine wpAnyH_take (i := 12) (v := ?_) (ops_at rfl) (by kernel_rfl) (by kernel_rfl) (by kernel_rfl) (fun _ _ _ h => h) (Or.inl ⟨by rfl, ?ym12⟩) (by assumption) ?nm12
    case ym12 => (intro wS hSw; (try dsimp only at hSw); go_simp; try rfl)
    try simp only [Act.put, List.setIfInBounds_toArray, List.set_cons_zero, List.set_cons_succ]
    refine wpAnyH_take (i := 13) (v := ?_) (ops_at rfl) (by kernel_rfl) (by kernel_rfl) (by kernel_rfl) (fun _ _ _ h => h) (Or.inl ⟨by rfl, ?ym13⟩) (by assumption) ?nm13
    case ym13 => (intro wS hSw; (try dsimp only at hSw); go_simp; try rfl)
    try simp only [Act.put, List.setIfInBounds_toArray, List.set_cons_zero, List.set_cons_succ]
    refine wpAnyH_ready (rs := [14]) (by kernel_rfl) (by simp) ?_
    refine AllReadyH.cons (ops_at rfl) (fun K hK => ?_) AllReadyH.nil
    go_simp
    refine (cloneI_any ⟨Bp, 0, none⟩ pl.length cap pl Bp (Bp + 1) (w.drewN (nq + 1)) rfl (by omega) (show Seg (w.drewN (nq + 1)) Bp (Bp + 1) (some ⟨Bp, 0, none⟩) pl from HSEG.out) (show Bp + 1 ≤ w.heap.size by omega)).mono ?_
    rintro e w2 ⟨v2, rfl, hown2', hb2'⟩
    dsimp only
    have hb2 : Below w.heap.size w w2 := ⟨hb2'.os, hb2'.tape, hb2'.output, hb2'.size, hb2'.block⟩
    have hown2 : w2.ownsRow w.heap.size 3 1 v2 pl.length (pl.map (Value.int .i64)) := hown2'
    have hpk2 := HPK.out.belowAll hb2
    obtain ⟨gc, cc, rfl, hgc0, hgc1, _, _⟩ := ownsRow_head hown2 hpl
    have hcl : Own w2 gc (gc + 1) (some ⟨gc, 0, none⟩) pl := by
      rcases (ownsRow_own (ys := pl) hown2).2 with h | ⟨g', cs', T', e, h1, h2, h3, h4⟩
      · subst h; simp at hpl
      · injection e with e; injection e with e; subst e; exact .inr ⟨_, cs', T', rfl, Nat.le_refl _, Nat.lt_succ_self _, h3, h4⟩
    have hz2 := hb2.size
    clear hb2' hown2' hown2
    refine hK.out _ _ ⟨hpk2.facts.2.2.2.1, hpk2.facts.2.2.2.2⟩ (fun hH14 => ?_)
    clear hK K
    refine wpAnyH_take (i := 15) (v := ?_) (ops_at rfl) (by kernel_rfl) (by kernel_rfl) (by kernel_rfl) (fun _ _ _ h => h) (Or.inl ⟨by rfl, ?ym15⟩) (by assumption) ?nm15
    case ym15 => (intro wS hSw; (try dsimp only at hSw); go_simp; try rfl)
    try simp only [Act.put, List.setIfInBounds_toArray, List.set_cons_zero, List.set_cons_succ]
    refine wpAnyH_take (i := 16) (v := ?_) (ops_at rfl) (by kernel_rfl) (by kernel_rfl) (by kernel_rfl) (fun _ _ _ h => h) (Or.inl ⟨by rfl, ?ym16⟩) (by assumption) ?nm16
    case ym16 => (intro wS hSw; (try dsimp only at hSw); go_simp; try rfl)
    try simp only [Act.put, List.setIfInBounds_toArray, List.set_cons_zero, List.set_cons_succ]
    have x6 := hpk2.cell 6
    have z6 := hpk2.frozen 6
    simp [five, restV] at x6
    have hpk3 := hpk2.rest_set 1 (.int .i64 (ls.length : Int))
    refine wpAnyH_ready (rs := [17]) (by kernel_rfl) (by simp) ?_
    refine AllReadyH.cons (ops_at rfl) (fun K hK => ?_) AllReadyH.nil
    go_simp
    refine hK.out _ _ ⟨hpk3.facts.2.2.2.1, hpk3.facts.2.2.2.2⟩ (fun hH17 => ?_)
    clear hK K
    refine wpAnyH_take (i := 18) (v := ?_) (ops_at rfl) (by kernel_rfl) (by kernel_rfl) (by kernel_rfl) (fun _ _ _ h => h) (Or.inl ⟨by rfl, ?ym18⟩) (by assumption) ?nm18
    case ym18 => (intro wS hSw; (try dsimp only at hSw); go_simp; try rfl)
    try simp only [Act.put, List.setIfInBounds_toArray, List.set_cons_zero, List.set_cons_succ]
    refine wpAnyH_take (i := 19) (v := ?_) (ops_at rfl) (by kernel_rfl) (by kernel_rfl) (by kernel_rfl) (fun _ _ _ h => h) (Or.inl ⟨by rfl, ?ym19⟩) (by assumption) ?nm19
    case ym19 => (intro wS hSw; (try dsimp only at hSw); go_simp; try rfl)
    try simp only [Act.put, List.setIfInBounds_toArray, List.set_cons_zero, List.set_cons_succ]
    have x7 := hpk3.cell 7
    have z7 := hpk3.frozen 7
    simp [five, restV] at x7
    have hpk4 := hpk3.rest_set 2 (.slice (some ⟨gc, 0, none⟩) pl.length cc)
    refine wpAnyH_ready (rs := [20]) (by kernel_rfl) (by simp) ?_
    refine AllReadyH.cons (ops_at rfl) (fun K hK => ?_) AllReadyH.nil
    go_simp
    refine hK.out _ _ ⟨hpk4.facts.2.2.2.1, hpk4.facts.2.2.2.2⟩ (fun hH20 => ?_)
    clear hK K
    refine wpAnyH_take (i := 21) (v := ?_) (ops_at rfl) (by kernel_rfl) (by kernel_rfl) (by kernel_rfl) (fun _ _ _ h => h) (Or.inl ⟨by rfl, ?ym21⟩) (by assumption) ?nm21
    case ym21 => (intro wS hSw; (try dsimp only at hSw); go_simp; try rfl)
    try simp only [Act.put, List.setIfInBounds_toArray, List.set_cons_zero, List.set_cons_succ]
    refine wpAnyH_take (i := 22) (v := ?_) (ops_at rfl) (by kernel_rfl) (by kernel_rfl) (by kernel_rfl) (fun _ _ _ h => h) (Or.inl ⟨by rfl, ?ym22⟩) (by assumption) ?nm22
    case ym22 => (intro wS hSw; (try dsimp only at hSw); go_simp; try rfl)
    try simp only [Act.put, List.setIfInBounds_toArray, List.set_cons_zero, List.set_cons_succ]
    have x8 := hpk4.cell 8
    have z8 := hpk4.frozen 8
    simp [five, restV] at x8
    have hpk5 := hpk4.rest_set 3 (.int .i64 0)
    refine wpAnyH_ready (rs := [23]) (by kernel_rfl) (by simp) ?_
    refine AllReadyH.cons (ops_at rfl) (fun K hK => ?_) AllReadyH.nil
    go_simp
    refine hK.out _ _ ⟨hpk5.facts.2.2.2.1, hpk5.facts.2.2.2.2⟩ (fun hH23 => ?_)
    clear hK K
    refine wpAnyH_done (by kernel_rfl) ?_ _
    have x9 := hpk5.cell 8
    have z9 := hpk5.frozen 8
    simp [five, restV] at x9
    have hpk6 := hpk5.rest_set 3 (.int .i64 1)
    go_wp2_with fail
    go_end0
    have hka : KeptAt w2 P Bo Bp lo (.slice (some ⟨gc, 0, none⟩) pl.length cc) (some pl) := .inr ⟨pl, gc, cc, rfl, rfl, hcl, hgc1, by omega, by omega, by omega, by omega⟩
    have ho2 : Only (Three P Bo Bp) w2 ((((w2.setCell ⟨P, 6, none⟩ (.int .i64 (ls.length : Int))).setCell ⟨P, 7, none⟩ (.slice (some ⟨gc, 0, none⟩) pl.length cc)).setCell ⟨P, 8, none⟩ (.int .i64 0)).setCell ⟨P, 8, none⟩ (.int .i64 1)) :=
      ((((Only.refl _ _).setCell (p := ⟨P, 6, none⟩) (Or.inl rfl) _).setCell (p := ⟨P, 7, none⟩) (Or.inl rfl) _).setCell (p := ⟨P, 8, none⟩) (Or.inl rfl) _).setCell (p := ⟨P, 8, none⟩) (Or.inl rfl) _
    exact ⟨rfl, _, hpk6, hka.only ho2, (Only.of_below hb2 (Nat.le_refl _)).trans ho2⟩

set_option maxHeartbeats 1000000 in
theorem keep_old (P T Bo Bp cap lo : Nat) (room : Int) (ls pl q : List Int) (TH FV : Value) (few cnt : Nat) (w : World) (h : Pk w P T Bo Bp cap room ls pl (restV TH few FV cnt)) (hk : KeptAt w P Bo Bp lo FV (some q)) (hc : ¬ ls.length < few) (hcn : cnt ≤ 1000000000) :
    Calls Try.prog 131 #[.pointer (some ⟨P, 0, none⟩)] w fun e w' => e = .returned (.tuple #[]) ∧ Pk w' P T Bo Bp cap room ls pl (restV TH few FV (cnt + 1)) ∧ Only (Three P Bo Bp) w w' := by
  obtain ⟨f0, f1, f2, f3, f4⟩ := h.facts
  have c6 := h.cell 6
  have c7 := h.cell 7
  have c8 := h.cell 8
  have z8 := h.frozen 8
  simp [five, restV] at c6 c7 c8
  have hpk6 := h.rest_set 3 (.int .i64 ((cnt : Int) + 1))
  have hnil : ∀ (w : World) (a : Option Addr) (n c n' c' : Nat), (binOp .eql 39 (.slice a n c) (.slice none n' c')).run Try.prog w = .ok (.bool a.isNone) w := fun w a n c n' c' => Lib.run_eql_slice_nil w _ _ a n c n' c' Try.underlying39
  obtain ⟨p, g, c, h1, rfl, _⟩ : ∃ p g c, some q = some p ∧ FV = .slice (some ⟨g, 0, none⟩) p.length c ∧ True := by
    rcases hk with ⟨h, _⟩ | ⟨p, g, c, h1, h2, _⟩
    · cases h
    · exact ⟨p, g, c, h1, h2, trivial⟩
  have hd : decide ((ls.length : Int) < (few : Int)) = false := decide_eq_false (by omega)
  have HPK := Lib.hid hpk6
  clear hk h h1 hpk6
  go_enter Try.func131, Try.ntmps131
  go_wp2_with fail
  go_quiet (fail)
  go_wp2_with fail
  go_end0
  exact ⟨rfl, HPK.out.drewN _, ((Only.refl _ _).setCell (p := ⟨P, 8, none⟩) (Or.inl rfl) _).drewN _⟩
end Go.Proofs.Ytoheoojpmndhoaa

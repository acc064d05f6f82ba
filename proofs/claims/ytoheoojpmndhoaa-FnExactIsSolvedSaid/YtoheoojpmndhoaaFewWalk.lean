/-
  The written program's search of the fewest boxes.
  Conditions: one to nine things, each from 1 to 100 and at most the room; a room of 1 to 1000.
-/
import Derived.Test.YtoheoojpmndhoaaFewKeep
import Derived.Test.YtoheoojpmndhoaaByPlan
import Derived.Test.YtoheoojpmndhoaaFewSpec
import Derived.Deep.RegionHeld3
namespace Go.Proofs.Ytoheoojpmndhoaa
set_option linter.unusedVariables false
open Go.RowKit

/-- What the search leaves. -/
def WalkRet (P T Bo Bp cap lo : Nat) (room : Int) (ls pl : List Int) (TH : Value) (st : Nat × Option (List Int) × Nat) (w : World) (e : Ending) (w' : World) : Prop :=
  e = .returned (.tuple #[]) ∧ ∃ FV, Pk w' P T Bo Bp cap room ls pl (restV TH st.1 FV st.2.2) ∧ KeptAt w' P Bo Bp lo FV st.2.1 ∧ Only (Three P Bo Bp) w w'

theorem visit_count (st : Nat × Option (List Int) × Nat) (L : List (List Int × List Int)) : (L.foldl visit st).2.2 ≤ st.2.2 + L.length := by
  induction L generalizing st with
  | nil => exact Nat.le_refl _
  | cons p L ih =>
    rw [List.foldl_cons, List.length_cons]
    have h1 := ih (visit st p)
    have h2 : (visit st p).2.2 ≤ st.2.2 + 1 := by
      unfold visit
      split
      · omega
      · split
        · dsimp only; omega
        · exact Nat.le_refl _
    omega

theorem nodeL_le (room : Int) (x : Int) (r pl ls : List Int) {k K : Nat} (h : k ≤ K) : (nodeL room x r pl ls k).length ≤ (nodeL room x r pl ls K).length := by
  obtain ⟨d, rfl⟩ : ∃ d, K = k + d := ⟨K - k, by omega⟩
  induction d with
  | zero => exact Nat.le_refl _
  | succ d ih =>
    refine Nat.le_trans (ih (by omega)) ?_
    rw [← Nat.add_assoc]
    by_cases hf : ls.getD (k + d) 0 + x ≤ room
    · rw [nodeL_yes hf, List.length_append]; omega
    · rw [nodeL_no hf]; exact Nat.le_refl _

theorem Seg.three {w w' : World} {lo hi P Bo Bp : Nat} {A : Option Addr} {xs : List Int} (h : Seg w lo hi A xs) (ho : Only (Three P Bo Bp) w w') (hB : hi ≤ w.heap.size) (h3 : hi ≤ P ∧ hi ≤ Bo ∧ hi ≤ Bp) : Seg w' lo hi A xs :=
  h.only ho hB (fun g hg => by rcases hg with rfl | rfl | rfl <;> omega)

set_option maxHeartbeats 8000000 in
set_option maxRecDepth 100000 in
theorem walk_any (A : Option Addr) (n c : Nat) (xs : List Int) (room : Int) (l0 h0 P T Bo Bp lo : Nat) (hn : xs.length = n) (hn1 : 1 ≤ n) (hn9 : n ≤ 9) (hx : ∀ x ∈ xs, 1 ≤ x ∧ x ≤ 100 ∧ x ≤ room) (hr : 1 ≤ room ∧ room ≤ 1000) (h3 : h0 ≤ P ∧ h0 ≤ Bo ∧ h0 ≤ Bp) :
    ∀ (d : Nat) (pl ls : List Int) (few cnt : Nat) (fo : Option (List Int)) (FV : Value) (w : World), pl.length + d = n → ls.length ≤ pl.length → Loads room ls →
      Pk w P T Bo Bp n room ls pl (restV (.slice A n c) few FV cnt) → KeptAt w P Bo Bp lo FV fo → lo ≤ w.heap.size → Seg w l0 h0 A xs → h0 ≤ w.heap.size → cnt + (plansL room (xs.drop pl.length) pl ls).length ≤ 1000000000 →
      Calls Try.prog 125 #[.pointer (some ⟨P, 0, none⟩)] w (WalkRet P T Bo Bp n lo room ls pl (.slice A n c) ((plansL room (xs.drop pl.length) pl ls).foldl visit (few, fo, cnt)) w) := by
  intro d
  induction d with
  | zero =>
    intro pl ls few cnt fo FV w hd hpl hlo h hk hlw hs hB hcn
    obtain ⟨f0, f1, f2, f3, f4⟩ := h.facts
    have c5 := h.cell 5
    have c6 := h.cell 6
    simp [five, restV] at c5 c6
    have hpn : pl.length = n := by omega
    have hD : plansL room (xs.drop pl.length) pl ls = [(pl, ls)] := by rw [List.drop_of_length_le (by omega)]; rfl
    rw [hD] at hcn ⊢
    rw [hpn] at f4
    have HPN := Lib.hid hpn
    have HPK := Lib.hid h
    have HKA := Lib.hid hk
    have hne : ((n : Int) == (n : Int)) = true := by simp
    clear hn hx hd hD hs h hk hpn
    by_cases hgt : few < ls.length
    · have HV := Lib.hid (show visit (few, fo, cnt) (pl, ls) = (few, fo, cnt) by rw [visit, if_pos hgt])
      have hd1 : decide ((few : Int) < (ls.length : Int)) = true := decide_eq_true (by omega)
      go_enter Try.func125, Try.ntmps125
      go_wp2_with fail
      go_quiet (fail)
      go_wp2
      go_end0
      exact ⟨rfl, FV, by rw [List.foldl_cons, List.foldl_nil, HV.out]; exact HPK.out.drewN _, by rw [List.foldl_cons, List.foldl_nil, HV.out]; exact HKA.out.only ((Only.refl _ _).drewN _), (Only.refl _ _).drewN _⟩
    · have hd1 : decide ((few : Int) < (ls.length : Int)) = false := decide_eq_false (by omega)
      by_cases hcc : fo = none ∨ ls.length < few
      · have HV := Lib.hid (show visit (few, fo, cnt) (pl, ls) = (ls.length, some pl, 1) by rw [visit, if_neg hgt, if_pos hcc])
        go_enter Try.func125, Try.ntmps125
        go_wp2_with fail
        go_quiet (fail)
        go_wp2_with fail
        refine (keep_new P T Bo Bp n lo room ls pl (.slice A n c) FV few cnt fo _ (HPK.out.drewN _) (HKA.out.only ((Only.refl _ _).drewN _)) hlw (by rw [HPN.out]; omega) hcc).mono ?_
        rintro e w2 ⟨rfl, FV', hp2, hk2, ho2⟩
        have HP2 := Lib.hid hp2
        have HK2 := Lib.hid hk2
        have HO2 : Hid (Only (Three P Bo Bp) w w2) := ⟨ho2.os, ho2.tape, ho2.output, ho2.size, ho2.block⟩
        clear hp2 hk2 ho2
        go_wp2
        go_end0
        exact ⟨rfl, FV', by rw [List.foldl_cons, List.foldl_nil, HV.out]; exact HP2.out, by rw [List.foldl_cons, List.foldl_nil, HV.out]; exact HK2.out, HO2.out⟩
      · obtain ⟨q, rfl⟩ : ∃ q, fo = some q := by
          cases fo with
          | none => exact absurd (Or.inl rfl) hcc
          | some q => exact ⟨q, rfl⟩
        have hlt : ¬ ls.length < few := fun h => hcc (Or.inr h)
        have HV := Lib.hid (show visit (few, some q, cnt) (pl, ls) = (few, some q, cnt + 1) by rw [visit, if_neg hgt, if_neg hcc])
        simp at hcn
        go_enter Try.func125, Try.ntmps125
        go_wp2_with fail
        go_quiet (fail)
        go_wp2_with fail
        refine (keep_old P T Bo Bp n lo room ls pl q (.slice A n c) FV few cnt _ (HPK.out.drewN _) (HKA.out.only ((Only.refl _ _).drewN _)) hlt (by omega)).mono ?_
        rintro e w2 ⟨rfl, hp2, ho2⟩
        have HP2 := Lib.hid hp2
        have HO2 : Hid (Only (Three P Bo Bp) w w2) := ⟨ho2.os, ho2.tape, ho2.output, ho2.size, ho2.block⟩
        clear hp2 ho2
        go_wp2
        go_end0
        exact ⟨rfl, FV, by rw [List.foldl_cons, List.foldl_nil, HV.out]; exact HP2.out, by rw [List.foldl_cons, List.foldl_nil, HV.out]; exact HKA.out.only HO2.out, HO2.out⟩
  | succ d ih =>
    intro pl ls few cnt fo FV w hd hpl hlo h hk hlw hs hB hcn
    obtain ⟨f0, f1, f2, f3, f4⟩ := h.facts
    have c5 := h.cell 5
    have c6 := h.cell 6
    simp [five, restV] at c5 c6
    obtain ⟨p1, hp1⟩ : ∃ p1, pl.length = p1 := ⟨_, rfl⟩
    obtain ⟨p2, hp2⟩ : ∃ p2, ls.length = p2 := ⟨_, rfl⟩
    rw [hp1] at hd hpl hcn f4 ⊢
    rw [hp2] at hpl f3
    have hlt1 : p1 < n := by omega
    obtain ⟨x, hxk⟩ : ∃ x, xs[p1]? = some x := ⟨_, List.getElem?_eq_getElem (by omega)⟩
    have hxx := hx x (List.mem_of_getElem? hxk)
    obtain ⟨r, hrr⟩ : ∃ r, xs.drop (p1 + 1) = r := ⟨_, rfl⟩
    have hDD : plansL room (xs.drop p1) pl ls = nodeL room x r pl ls (p2 + 1) := by rw [drop_at hxk, hrr, ← hp2]; exact (nodeL_all room x r pl ls).symm
    rw [hDD] at hcn ⊢
    have HPL := Lib.hid hp1
    have HLS := Lib.hid hp2
    have HLO := Lib.hid hlo
    have HXK := Lib.hid hxk
    have HIH := Lib.hid ih
    have HRR := Lib.hid hrr
    have HCN := Lib.hid hcn
    have HPK := Lib.hid h
    have HKA := Lib.hid hk
    by_cases hgt : few < p2
    · have HV := Lib.hid (show (nodeL room x r pl ls (p2 + 1)).foldl visit (few, fo, cnt) = (few, fo, cnt) by rw [← hDD]; exact visit_prune (by show few < ls.length; omega))
      have hd1 : decide ((few : Int) < (p2 : Int)) = true := decide_eq_true (by omega)
      clear hn hx hd hDD hs h hk hp1 hp2 hlo hxk ih hrr hcn
      go_enter Try.func125, Try.ntmps125
      go_wp2_with fail
      go_quiet (fail)
      go_wp2
      go_end0
      exact ⟨rfl, FV, by rw [HV.out]; exact HPK.out.drewN _, by rw [HV.out]; exact HKA.out.only ((Only.refl _ _).drewN _), (Only.refl _ _).drewN _⟩
    · have hd1 : decide ((few : Int) < (p2 : Int)) = false := decide_eq_false (by omega)
      have hne : ((p1 : Int) == (n : Int)) = false := by simp; omega
      obtain ⟨bt, ot, x', rfl, _, hbt, hx', hct⟩ := hs.at_ (k := p1) (by omega)
      obtain rfl : x = x' := by have := hxk.symm.trans hx'; injection this
      have HS := Lib.hid hs
      have hn0 := hn
      clear hx hDD hs h hk hp1 hp2 hlo hxk ih hrr hcn hx' hn
      go_enter Try.func125, Try.ntmps125
      go_wp2_with fail
      go_quiet (fail)
      go_wp2_with fail
      go_loopw [4] (fun iv wr => ∃ k : Nat, k ≤ p2 + 1 ∧ iv = .int .i64 (k : Int) ∧ Hid (∃ FV', Pk wr P T Bo Bp n room ls pl (restV (.slice (some ⟨bt, ot, none⟩) n c) ((nodeL room x r pl ls k).foldl visit (few, fo, cnt)).1 FV' ((nodeL room x r pl ls k).foldl visit (few, fo, cnt)).2.2) ∧ KeptAt wr P Bo Bp lo FV' ((nodeL room x r pl ls k).foldl visit (few, fo, cnt)).2.1) ∧ Only (Three P Bo Bp) w wr) (fun iv _ => p2 + 1 - (intOf iv).toNat)
      case atStart => exact ⟨0, by omega, rfl, ⟨FV, HPK.out.drewN _, HKA.out.only ((Only.refl _ _).drewN _)⟩, (Only.refl _ _).drewN _⟩
      case round =>
        obtain ⟨k, hk, rfl, hst, ho⟩ := hrel
        have hz := ho.size
        obtain ⟨st, hST⟩ : ∃ st, (nodeL room x r pl ls k).foldl visit (few, fo, cnt) = st := ⟨_, rfl⟩
        rw [hST] at hst
        obtain ⟨FV', hpk, hka⟩ := hst.out
        have hcs : st.2.2 ≤ cnt + (nodeL room x r pl ls k).length := by rw [← hST]; exact visit_count _ _
        have HST := Lib.hid hST
        have HPW := Lib.hid hpk
        have HKW := Lib.hid hka
        have HCS := Lib.hid hcs
        obtain ⟨e0, e1, e2, e3, e4⟩ := hpk.facts
        rw [HLS.out] at e3
        clear hST hst hpk hka hcs f0 f1 f2 f3 f4 c5 c6
        by_cases hkp : k ≤ p2
        · obtain ⟨l, hl⟩ : ∃ l, ls.getD k 0 = l := ⟨_, rfl⟩
          have hlb : 0 ≤ l ∧ l ≤ 1000 := by
            rcases Nat.lt_or_ge k ls.length with h | h
            · have h1 := HLO.out.at_ (List.getElem?_eq_getElem h)
              have h2 : ls.getD k 0 = ls[k] := by simp [List.getD, h]
              omega
            · have h2 : ls.getD k 0 = 0 := by simp [List.getD, h]
              omega
          have HGL := Lib.hid hl
          have HCART := Lib.hid (show (Value.agg #[.int .i64 (k : Int), .int .i64 l]) = cart ls k by rw [cart, hl])
          clear hl
          go_wp2_with fail
          refine (cartonAt_any P T Bo Bp n room ls pl _ k wr HPW.out (by rw [HLS.out]; exact hkp)).mono ?_
          unfold Named
          rw [← HCART.out]
          rintro e w1 ⟨rfl, hb1⟩
          have hz1 := hb1.size
          have HPA0 := Lib.hid ((HPW.out.belowAll hb1).alloc (.cells #[.int .i64 (k : Int), .int .i64 l] 105))
          have HON1 := Lib.hid (((Only.of_below (S := Three P Bo Bp) hb1 (Nat.le_refl _)).alloc (.cells #[.int .i64 (k : Int), .int .i64 l] 105)))
          have HCB0 := Lib.hid (new_at w1 (.cells #[.int .i64 (k : Int), .int .i64 l] 105) rfl)
          obtain ⟨wA, hwA⟩ : ∃ wA, w1.alloc (.cells #[.int .i64 (k : Int), .int .i64 l] 105) = wA := ⟨_, rfl⟩
          obtain ⟨cb, hcb⟩ : ∃ cb, w1.heap.size = cb := ⟨_, rfl⟩
          rw [hwA] at HPA0 HON1 HCB0
          rw [hcb] at HCB0
          have HPA := HPA0
          have HCWA := Lib.hid hwA
          have HCC := Lib.hid hcb
          have hcb0 := cell_of HCB0.out 0
          have hcb1 := cell_of HCB0.out 1
          simp at hcb0 hcb1
          have hP3 := HPW.out.lt
          have HC3 := Lib.hid (show ¬ Three P Bo Bp cb by rintro (h | h | h) <;> omega)
          have hzA := HON1.out.size
          clear hwA hcb hb1 e0 e1 e2 e3 e4
          go_wp2_with fail
          rw [HCWA.out, HCC.out]
          by_cases hfit : l + x ≤ room
          · have HFD := Lib.hid (decide_eq_true hfit)
            refine wp_region_held_drew (S := (fun wq => wq.cell? ⟨cb, 0, none⟩ = some (.int .i64 (k : Int)) ∧ wq.cell? ⟨cb, 1, none⟩ = some (.int .i64 l))) (by kernel_rfl) ⟨hcb0, hcb1⟩ (fun hH0 => ?_)
            refine wpAnyH_take (i := 0) (v := ?_) (ops_at rfl) (by kernel_rfl) (by kernel_rfl) (by kernel_rfl) (fun _ _ _ h => h) (Or.inl ⟨by rfl, ?yf0⟩) (by assumption) ?nf0
            case yf0 => (intro wS hSw; (try dsimp only at hSw); go_simp; try rfl)
            try simp only [Act.put, List.setIfInBounds_toArray, List.set_cons_zero, List.set_cons_succ]
            refine wpAnyH_take (i := 1) (v := ?_) (ops_at rfl) (by kernel_rfl) (by kernel_rfl) (by kernel_rfl) (fun _ _ _ h => h) (Or.inl ⟨by rfl, ?yf1⟩) (by assumption) ?nf1
            case yf1 => (intro wS hSw; (try dsimp only at hSw); go_simp; try rfl)
            try simp only [Act.put, List.setIfInBounds_toArray, List.set_cons_zero, List.set_cons_succ]
            refine wpAnyH_take (i := 2) (v := ?_) (ops_at rfl) (by kernel_rfl) (by kernel_rfl) (by kernel_rfl) (fun _ _ _ h => h) (Or.inl ⟨by rfl, ?yf2⟩) (by assumption) ?nf2
            case yf2 => (intro wS hSw; (try dsimp only at hSw); go_simp; try rfl)
            try simp only [Act.put, List.setIfInBounds_toArray, List.set_cons_zero, List.set_cons_succ]
            refine wpAnyH_take (i := 3) (v := ?_) (ops_at rfl) (by kernel_rfl) (by kernel_rfl) (by kernel_rfl) (fun _ _ _ h => h) (Or.inl ⟨by rfl, ?yf3⟩) (by assumption) ?nf3
            case yf3 => (intro wS hSw; (try dsimp only at hSw); go_simp; try rfl)
            try simp only [Act.put, List.setIfInBounds_toArray, List.set_cons_zero, List.set_cons_succ]
            refine wpAnyH_take (i := 4) (v := ?_) (ops_at rfl) (by kernel_rfl) (by kernel_rfl) (by kernel_rfl) (fun _ _ _ h => h) (Or.inl ⟨by rfl, ?yf4⟩) (by assumption) ?nf4
            case yf4 => (intro wS hSw; (try dsimp only at hSw); go_simp; try rfl)
            try simp only [Act.put, List.setIfInBounds_toArray, List.set_cons_zero, List.set_cons_succ]
            refine wpAnyH_ready (rs := [5]) (by kernel_rfl) (by simp) ?_
            refine AllReadyH.cons (ops_at rfl) (fun K hK => ?_) AllReadyH.nil
            go_simp
            refine (fits_any P T Bo Bp n room ls pl _ (k : Int) l x wA.drew (HPA.out.drew) (by omega) (by omega) true HFD.out).mono ?_
            rintro e w2 ⟨rfl, hb2'⟩
            dsimp only
            have hb2 : Below wA.heap.size wA w2 := ⟨hb2'.os, hb2'.tape, hb2'.output, hb2'.size, hb2'.block⟩
            have hcb0_2 := (hb2.cell (cell_lt hcb0)).trans hcb0
            have hcb1_2 := (hb2.cell (cell_lt hcb1)).trans hcb1
            refine hK.out _ _ ⟨hcb0_2, hcb1_2⟩ (fun hHf5 => ?_)
            clear hK K
            refine wpAnyH_done (by kernel_rfl) ?_ _
            have HP2 := Lib.hid (HPA.out.belowAll hb2)
            have HON2 := Lib.hid (Only.of_below (S := Three P Bo Bp) hb2 (Nat.le_refl _))
            go_wp2_with fail
            refine wp_region_held_drew (S := (fun wq => wq.cell? ⟨cb, 0, none⟩ = some (.int .i64 (k : Int)) ∧ wq.cell? ⟨cb, 1, none⟩ = some (.int .i64 l))) (by kernel_rfl) ⟨hcb0_2, hcb1_2⟩ (fun hH0 => ?_)
            refine wpAnyH_take (i := 0) (v := ?_) (ops_at rfl) (by kernel_rfl) (by kernel_rfl) (by kernel_rfl) (fun _ _ _ h => h) (Or.inl ⟨by rfl, ?yq0⟩) (by assumption) ?nq0
            case yq0 => (intro wS hSw; (try dsimp only at hSw); go_simp; try rfl)
            try simp only [Act.put, List.setIfInBounds_toArray, List.set_cons_zero, List.set_cons_succ]
            refine wpAnyH_take (i := 1) (v := ?_) (ops_at rfl) (by kernel_rfl) (by kernel_rfl) (by kernel_rfl) (fun _ _ _ h => h) (Or.inl ⟨by rfl, ?yq1⟩) (by assumption) ?nq1
            case yq1 => (intro wS hSw; (try dsimp only at hSw); go_simp; try rfl)
            try simp only [Act.put, List.setIfInBounds_toArray, List.set_cons_zero, List.set_cons_succ]
            refine wpAnyH_take (i := 2) (v := ?_) (ops_at rfl) (by kernel_rfl) (by kernel_rfl) (by kernel_rfl) (fun _ _ _ h => h) (Or.inl ⟨by rfl, ?yq2⟩) (by assumption) ?nq2
            case yq2 => (intro wS hSw; (try dsimp only at hSw); go_simp; try rfl)
            try simp only [Act.put, List.setIfInBounds_toArray, List.set_cons_zero, List.set_cons_succ]
            refine wpAnyH_take (i := 3) (v := ?_) (ops_at rfl) (by kernel_rfl) (by kernel_rfl) (by kernel_rfl) (fun _ _ _ h => h) (Or.inl ⟨by rfl, ?yq3⟩) (by assumption) ?nq3
            case yq3 => (intro wS hSw; (try dsimp only at hSw); go_simp; try rfl)
            try simp only [Act.put, List.setIfInBounds_toArray, List.set_cons_zero, List.set_cons_succ]
            refine wpAnyH_take (i := 4) (v := ?_) (ops_at rfl) (by kernel_rfl) (by kernel_rfl) (by kernel_rfl) (fun _ _ _ h => h) (Or.inl ⟨by rfl, ?yq4⟩) (by assumption) ?nq4
            case yq4 => (intro wS hSw; (try dsimp only at hSw); go_simp; try rfl)
            try simp only [Act.put, List.setIfInBounds_toArray, List.set_cons_zero, List.set_cons_succ]
            refine wpAnyH_ready (rs := [5]) (by kernel_rfl) (by simp) ?_
            refine AllReadyH.cons (ops_at rfl) (fun K hK => ?_) AllReadyH.nil
            go_simp
            rw [HCART.out]
            refine (put_any P T Bo Bp n room ls pl _ k x w2.drew (HP2.out.drew) (by omega) hr.2 HLO.out (by rw [HLS.out]; omega) (by rw [HLS.out]; omega) (by rw [HPL.out]; omega)).mono ?_
            rintro e w3 ⟨rfl, hpk3, ho3'⟩
            dsimp only
            have ho3 : Only (Three P Bo Bp) w2 w3 := ⟨ho3'.os, ho3'.tape, ho3'.output, ho3'.size, ho3'.block⟩
            have hcb0_3 : w3.cell? ⟨cb, 0, none⟩ = some (.int .i64 (k : Int)) := (World.cell?_of_block (ho3.block cb (by exact cell_lt hcb0_2) HC3.out)).trans hcb0_2
            have hcb1_3 : w3.cell? ⟨cb, 1, none⟩ = some (.int .i64 l) := (World.cell?_of_block (ho3.block cb (by exact cell_lt hcb0_2) HC3.out)).trans hcb1_2
            refine hK.out _ _ ⟨hcb0_3, hcb1_3⟩ (fun hHq5 => ?_)
            clear hK K
            refine wpAnyH_done (by kernel_rfl) ?_ _
            have HON3 := Lib.hid ((HON1.out.trans HON2.out).trans ho3)
            have HPK3 := Lib.hid hpk3
            have HKA3 := Lib.hid (HKW.out.only HON3.out)
            have HS3 := Lib.hid ((HS.out.three ho hB h3).three HON3.out (by omega) h3)
            have hz3 := HON3.out.size
            obtain ⟨M, hM⟩ : ∃ M, plansL room (xs.drop (pl ++ [(k : Int)]).length) (pl ++ [(k : Int)]) (addTo ls k x) = M := ⟨_, rfl⟩
            have hYES : nodeL room x r pl ls (k + 1) = nodeL room x r pl ls k ++ M := by rw [nodeL_yes (by rw [HGL.out]; exact hfit), ← hM, List.length_append, HPL.out]; rw [show p1 + [(k : Int)].length = p1 + 1 from rfl, HRR.out]
            have hcnt : st.2.2 + M.length ≤ 1000000000 := by
              have h1 := HCS.out
              have h2 := nodeL_le room x r pl ls (k := k + 1) (K := p2 + 1) (by omega)
              rw [hYES, List.length_append] at h2
              have h3 := HCN.out
              omega
            have HYES := Lib.hid (show (nodeL room x r pl ls (k + 1)).foldl visit (few, fo, cnt) = M.foldl visit st by rw [hYES, List.foldl_append, HST.out])
            have HLO2 := Lib.hid (show Loads room (addTo ls k x) from HLO.out.add hxx.1 hxx.2.2 (fun _ => by rw [HGL.out]; exact hfit))
            have HMM := Lib.hid hM
            have HAL := Lib.hid (show (addTo ls k x).length ≤ (pl ++ [(k : Int)]).length by rw [addTo_length, List.length_append, HPL.out, HLS.out]; show _ ≤ p1 + 1; split <;> omega)
            clear hM hYES hpk3 ho3
            go_wp2_with fail
            refine (HIH.out (pl ++ [(k : Int)]) (addTo ls k x) st.1 st.2.2 st.2.1 FV' w3 (by rw [List.length_append, HPL.out]; show p1 + 1 + d = n; omega) HAL.out HLO2.out HPK3.out HKA3.out (by omega) HS3.out (by omega) (by rw [HMM.out]; exact hcnt)).mono ?_
            rw [HMM.out]
            rintro e w4 ⟨rfl, FV4, hpk4, hka4, ho4⟩
            have HPK4 := Lib.hid hpk4
            have HKA4 := Lib.hid hka4
            have HON4 := Lib.hid (HON3.out.trans ho4)
            clear hpk4 hka4 ho4
            go_wp2_with fail
            refine (takeBack_any P T Bo Bp n room ls pl _ k x _ HPK4.out (by omega) hr.2 HLO.out (by rw [HLS.out]; omega)).mono ?_
            rintro e w5 ⟨rfl, hpk5, ho5⟩
            have HPK5 := Lib.hid hpk5
            have HKA5 := Lib.hid (HKA4.out.only ho5)
            have HON5 := Lib.hid (HON4.out.trans ho5)
            clear hpk5 ho5
            go_wp2
            go_roundw
            case rel => exact ⟨k + 1, by omega, by go_num, ⟨FV4, by rw [HYES.out]; exact HPK5.out, by rw [HYES.out]; exact HKA5.out⟩, ho.trans HON5.out⟩
            case measure => first | (simp [intOf]; done) | (simp [intOf]; omega)
          · have HFD := Lib.hid (decide_eq_false hfit)
            refine wp_region_held_drew (S := (fun wq => wq.cell? ⟨cb, 0, none⟩ = some (.int .i64 (k : Int)) ∧ wq.cell? ⟨cb, 1, none⟩ = some (.int .i64 l))) (by kernel_rfl) ⟨hcb0, hcb1⟩ (fun hH0 => ?_)
            refine wpAnyH_take (i := 0) (v := ?_) (ops_at rfl) (by kernel_rfl) (by kernel_rfl) (by kernel_rfl) (fun _ _ _ h => h) (Or.inl ⟨by rfl, ?yg0⟩) (by assumption) ?ng0
            case yg0 => (intro wS hSw; (try dsimp only at hSw); go_simp; try rfl)
            try simp only [Act.put, List.setIfInBounds_toArray, List.set_cons_zero, List.set_cons_succ]
            refine wpAnyH_take (i := 1) (v := ?_) (ops_at rfl) (by kernel_rfl) (by kernel_rfl) (by kernel_rfl) (fun _ _ _ h => h) (Or.inl ⟨by rfl, ?yg1⟩) (by assumption) ?ng1
            case yg1 => (intro wS hSw; (try dsimp only at hSw); go_simp; try rfl)
            try simp only [Act.put, List.setIfInBounds_toArray, List.set_cons_zero, List.set_cons_succ]
            refine wpAnyH_take (i := 2) (v := ?_) (ops_at rfl) (by kernel_rfl) (by kernel_rfl) (by kernel_rfl) (fun _ _ _ h => h) (Or.inl ⟨by rfl, ?yg2⟩) (by assumption) ?ng2
            case yg2 => (intro wS hSw; (try dsimp only at hSw); go_simp; try rfl)
            try simp only [Act.put, List.setIfInBounds_toArray, List.set_cons_zero, List.set_cons_succ]
            refine wpAnyH_take (i := 3) (v := ?_) (ops_at rfl) (by kernel_rfl) (by kernel_rfl) (by kernel_rfl) (fun _ _ _ h => h) (Or.inl ⟨by rfl, ?yg3⟩) (by assumption) ?ng3
            case yg3 => (intro wS hSw; (try dsimp only at hSw); go_simp; try rfl)
            try simp only [Act.put, List.setIfInBounds_toArray, List.set_cons_zero, List.set_cons_succ]
            refine wpAnyH_take (i := 4) (v := ?_) (ops_at rfl) (by kernel_rfl) (by kernel_rfl) (by kernel_rfl) (fun _ _ _ h => h) (Or.inl ⟨by rfl, ?yg4⟩) (by assumption) ?ng4
            case yg4 => (intro wS hSw; (try dsimp only at hSw); go_simp; try rfl)
            try simp only [Act.put, List.setIfInBounds_toArray, List.set_cons_zero, List.set_cons_succ]
            refine wpAnyH_ready (rs := [5]) (by kernel_rfl) (by simp) ?_
            refine AllReadyH.cons (ops_at rfl) (fun K hK => ?_) AllReadyH.nil
            go_simp
            refine (fits_any P T Bo Bp n room ls pl _ (k : Int) l x wA.drew (HPA.out.drew) (by omega) (by omega) false HFD.out).mono ?_
            rintro e w2 ⟨rfl, hb2'⟩
            dsimp only
            have hb2 : Below wA.heap.size wA w2 := ⟨hb2'.os, hb2'.tape, hb2'.output, hb2'.size, hb2'.block⟩
            have hcb0_2 := (hb2.cell (cell_lt hcb0)).trans hcb0
            have hcb1_2 := (hb2.cell (cell_lt hcb1)).trans hcb1
            refine hK.out _ _ ⟨hcb0_2, hcb1_2⟩ (fun hHg5 => ?_)
            clear hK K
            refine wpAnyH_done (by kernel_rfl) ?_ _
            have HNO := Lib.hid (show nodeL room x r pl ls (k + 1) = nodeL room x r pl ls k from nodeL_no (by rw [HGL.out]; exact hfit))
            have HON2 := Lib.hid ((HON1.out.trans (Only.of_below (S := Three P Bo Bp) hb2 (Nat.le_refl _))))
            have HP2 := Lib.hid (HPA.out.belowAll hb2)
            have HK2 := Lib.hid (HKW.out.only HON2.out)
            go_wp2
            go_roundw
            case rel => exact ⟨k + 1, by omega, by go_num, ⟨FV', by rw [HNO.out, HST.out]; exact HP2.out, by rw [HNO.out, HST.out]; exact HK2.out⟩, ho.trans HON2.out⟩
            case measure => first | (simp [intOf]; done) | (simp [intOf]; omega)
        · obtain rfl : k = p2 + 1 := by omega
          go_wp2
          go_end0
          exact ⟨rfl, FV', by rw [HST.out]; exact HPW.out, by rw [HST.out]; exact HKW.out, ho⟩
end Go.Proofs.Ytoheoojpmndhoaa

/-
  The visitors of the written program's walk through all choices.
  Conditions: at most ten items, and room of at most 4000.
-/
import Derived.Test.YtmgloknghoeheaaSuO
import Derived.Test.YtmgloknghoeheaaSuXbest
import Derived.Test.YtmgloknghoeheaaSuXmost
import Derived.Test.YtmgloknghoeheaaSuXcount
import Derived.Test.YtmgloknghoeheaaSuXlight
namespace Go.Proofs.Ytmgloknghoeheaa
set_option linter.unusedVariables false
open Go.RowKit

set_option maxHeartbeats 2000000 in
theorem visit_best (q0 q1 : Nat) (A : Option Addr) (n c : Nat) (ts : List (Int × Int × Int)) (W B : Int) (lo hi P0 b0 : Nat) (hn : ts.length = n) (hg : OkI ts) (h0 : q0 < P0) (h1 : q1 < P0) (h01 : q1 ≠ q0) (hb0 : b0 ≤ q0) (hib : hi ≤ b0) : Vis_best q0 q1 A n c ts W B lo hi P0 b0 (RG P0 q0 [(q1, (Obj.cells #[.slice A n c, .int .i64 W, .int .i64 B] 62 (0, 0)))] (valI ts) id) := by
  intro ks L v w hinc hfit hL hb hP hs hown hr
  obtain ⟨B', d, rfl⟩ := ownsRow_form hown
  obtain ⟨m, hm⟩ : ∃ m, ks.length = m := ⟨_, rfl⟩
  rw [hm] at hown hr ⊢
  have hm10 : m ≤ 10 := by have := incI_len hinc; have := hg.len; omega
  have HR := Lib.hid hr
  have HM := Lib.hid hm
  have HN := Lib.hid hn
  have HG := Lib.hid hg
  have HINC := Lib.hid hinc
  have HLT := Lib.hid (show ∀ g, (Value.slice B' m d).ownBlock = some g → g < w.heap.size from fun g e => (hown.lt g e).2)
  have HSK := Lib.hid ((ownsRow_own (ys := ks) (by rw [hm]; exact hown)).2.seg)
  have HSI := Lib.hid hs
  have hL4 : L.length < 4096 := hL
  obtain ⟨Af, nf, cf, hcel, hnf, _, _⟩ := hr.cel
  have HCEL := Lib.hid hcel
  have HNF := Lib.hid hnf
  have hcnt : (offL (valI ts) L).2.2 ≤ 4096 := by have := offL_count (valI ts) L; have := hL; omega
  have hlug := hr.ext _ (List.mem_singleton.2 rfl)
  have l0 := cell_of hlug 0
  have l1 := cell_of hlug 1
  have l2 := cell_of hlug 2
  clear hm hn hg hinc hown hs hr hcel hnf hlug hL
  go_enter Try.func83, Try.ntmps83
  go_wp2_with fail
  refine (valueOf_any A B' n c m d W B ts ks lo hi _ _ _ HN.out HG.out HM.out HINC.out HSI.out (by omega) HSK.out (Nat.le_refl _)).mono ?_
  rintro e w1 ⟨rfl, hb1⟩
  have hz1 := hb1.size
  have HB1 := Lib.hid hb1
  have HR1 := Lib.hid ((RG.keeps h0 (by simpa using h1)).below _ _ _ _ HR.out hb1)
  have HC1 := Lib.hid ((hb1.block _ (heap_lt HCEL.out)).trans HCEL.out)
  have HSK1 := Lib.hid (HSK.out.below hb1 (Nat.le_refl _))
  clear hb1 l0 l1 l2
  go_wp2_with fail
  refine (offer_any q0 _ _ _ Af nf cf B' m d ks _ _ _ _ HC1.out HNF.out hcnt HM.out (by omega) HSK1.out hz1).mono ?_
  intro e w2 hk
  obtain rfl := hk.1
  have HKK := Lib.hid hk
  clear hk
  go_wp2
  go_end0
  obtain ⟨_, _, _, _, _, _, _, ho⟩ := id HKK.out
  exact ⟨rfl, RG.step (fl := id) h0 (by simpa using ⟨h1, h01⟩) (by omega) (fun g e => Nat.lt_of_lt_of_le (HLT.out g e) hz1) HR1.out HC1.out rfl HKK.out,
    fun k hk0 hk1 => (ho.block k (by omega) (fun e => by omega)).trans (HB1.out.block k hk1), (HB1.out.mono hb).trans (ho.below (by omega) (fun k hk => by have hk' : k = q0 := hk; omega))⟩

set_option maxHeartbeats 2000000 in
theorem visit_most (q0 : Nat) (A : Option Addr) (n c : Nat) (ts : List (Int × Int × Int)) (W B : Int) (lo hi P0 b0 : Nat) (hn : ts.length = n) (hg : OkI ts) (h0 : q0 < P0) (hb0 : b0 ≤ q0) (hib : hi ≤ b0) : Vis_most q0 A n c ts W B lo hi P0 b0 (RG P0 q0 [] (fun xs : List Int => (xs.length : Int)) id) := by
  intro ks L v w hinc hfit hL hb hP hs hown hr
  obtain ⟨B', d, rfl⟩ := ownsRow_form hown
  obtain ⟨m, hm⟩ : ∃ m, ks.length = m := ⟨_, rfl⟩
  rw [hm] at hown hr ⊢
  have hm10 : m ≤ 10 := by have := incI_len hinc; have := hg.len; omega
  have HR := Lib.hid hr
  have HM := Lib.hid hm
  have HN := Lib.hid hn
  have HG := Lib.hid hg
  have HINC := Lib.hid hinc
  have HLT := Lib.hid (show ∀ g, (Value.slice B' m d).ownBlock = some g → g < w.heap.size from fun g e => (hown.lt g e).2)
  have HSK := Lib.hid ((ownsRow_own (ys := ks) (by rw [hm]; exact hown)).2.seg)
  have HSI := Lib.hid hs
  have hL4 : L.length < 4096 := hL
  obtain ⟨Af, nf, cf, hcel, hnf, _, _⟩ := hr.cel
  have HCEL := Lib.hid hcel
  have HNF := Lib.hid hnf
  have hcnt : (offL (fun xs : List Int => (xs.length : Int)) L).2.2 ≤ 4096 := by have := offL_count (fun xs : List Int => (xs.length : Int)) L; have := hL; omega
  have HGV := Lib.hid (show (fun xs : List Int => (xs.length : Int)) ks = (m : Int) by simp [hm])
  clear hm hn hg hinc hown hs hr hcel hnf hL
  go_enter Try.func60, Try.ntmps60
  go_wp2_with fail
  refine (offer_any q0 _ _ _ Af nf cf B' m d ks _ _ _ _ HCEL.out HNF.out hcnt HM.out (by omega) HSK.out (Nat.le_refl _)).mono ?_
  intro e w2 hk
  obtain rfl := hk.1
  rw [← HGV.out] at hk
  have HKK := Lib.hid hk
  clear hk
  go_wp2
  go_end0
  obtain ⟨_, _, _, _, _, _, _, ho⟩ := id HKK.out
  exact ⟨rfl, RG.step (fl := id) h0 (by simp) (by omega) HLT.out HR.out HCEL.out rfl HKK.out,
    fun k hk0 hk1 => ho.block k hk1 (fun e => by omega), ho.below (by omega) (fun k hk => by have hk' : k = q0 := hk; omega)⟩

/-- How many choices there have been. -/
structure RC (P0 q : Nat) (ob : Option Nat) (L : List (List Int)) (w : World) : Prop where
  size : P0 ≤ w.heap.size
  far : ∀ g, ob = some g → P0 ≤ g
  cnt : w.heap[q]? = some (.cells #[.int .i64 (L.length : Nat)] 3 (0, 0))
theorem RC.keeps {P0 q : Nat} (hq : q < P0) : Keeps P0 (RC P0 q) where
  below ob L w w' h hb := ⟨Nat.le_trans h.size hb.size, h.far, (hb.block _ (heap_lt h.cnt)).trans h.cnt⟩
  row ob ob' L w w' h ho hob := by
    refine ⟨Nat.le_trans h.size ho.size, fun g hg => ?_, (ho.block _ (heap_lt h.cnt) (fun hs => ?_)).trans h.cnt⟩
    · rcases hob with e | ⟨g', e, hg'⟩
      · exact h.far g (e ▸ hg)
      · rw [e] at hg
        injection hg with hg
        have := h.size
        omega
    · rcases hs with e | e
      · omega
      · have := h.far _ e; omega
set_option maxHeartbeats 2000000 in
theorem visit_count (q0 : Nat) (A : Option Addr) (n c : Nat) (ts : List (Int × Int × Int)) (W B : Int) (lo hi P0 b0 : Nat) (h0 : q0 < P0) (hb0 : b0 ≤ q0) : Vis_count q0 A n c ts W B lo hi P0 b0 (RC P0 q0) := by
  intro ks L v w hinc hfit hL hb hP hs hown hr
  obtain ⟨B', d, rfl⟩ := ownsRow_form hown
  have HR := Lib.hid hr
  have c0 := cell_of hr.cnt 0
  have z0 := frozen_of hr.cnt 0
  clear hinc hfit hs hown hr
  go_enter Try.func62, Try.ntmps62
  go_wp2
  go_end0
  have hr := HR.out
  refine ⟨rfl, ⟨by have := hr.size; simpa [World.setCell] using this, hr.far, (set_self hr.cnt 0 _).trans ?_⟩, fun k hk0 hk1 => set_far w (p := ⟨q0, 0, none⟩) (by show k ≠ q0; omega) _, (Below.refl _ _).setCell (p := ⟨q0, 0, none⟩) hb0 _⟩
  rw [List.length_append]
  rfl

/-- The choices of a value that is asked for. -/
def worthF (ts : List (Int × Int × Int)) (val : Int) (L : List (List Int)) : List (List Int) := L.filter fun ks => decide (val ≤ valI ts ks)
theorem worthF_yes {ts : List (Int × Int × Int)} {val : Int} {L : List (List Int)} {ks : List Int} (h : val ≤ valI ts ks) : worthF ts val (L ++ [ks]) = worthF ts val L ++ [ks] := by simp [worthF, h]
theorem worthF_no {ts : List (Int × Int × Int)} {val : Int} {L : List (List Int)} {ks : List Int} (h : ¬ val ≤ valI ts ks) : worthF ts val (L ++ [ks]) = worthF ts val L := by simp [worthF, h]
theorem worthF_len (ts : List (Int × Int × Int)) (val : Int) (L : List (List Int)) : (worthF ts val L).length ≤ L.length := List.length_filter_le _ _
/-- How light a choice is. -/
def litI (ts : List (Int × Int × Int)) (ks : List Int) : Int := - sumF (wI ts) ks

set_option maxRecDepth 100000 in
set_option maxHeartbeats 2000000 in
theorem visit_light (q0 q1 q2 : Nat) (A : Option Addr) (n c : Nat) (ts : List (Int × Int × Int)) (W B : Int) (lo hi P0 b0 : Nat) (val : Int) (hn : ts.length = n) (hg : OkI ts) (h0 : q0 < P0) (h1 : q1 < P0) (h2 : q2 < P0) (h02 : q0 ≠ q2) (h12 : q1 ≠ q2) (hb0 : b0 ≤ q2) (hib : hi ≤ b0) :
    Vis_light q0 q1 q2 A n c ts W B lo hi P0 b0 (RG P0 q2 [(q0, (Obj.cells #[.slice A n c, .int .i64 W, .int .i64 B] 62 (0, 0))), (q1, .cells #[.int .i64 val] 3 (0, 0))] (litI ts) (worthF ts val)) := by
  intro ks L v w hinc hfit hL hb hP hs hown hr
  obtain ⟨B', d, rfl⟩ := ownsRow_form hown
  obtain ⟨m, hm⟩ : ∃ m, ks.length = m := ⟨_, rfl⟩
  rw [hm] at hown hr ⊢
  have hm10 : m ≤ 10 := by have := incI_len hinc; have := hg.len; omega
  have HR := Lib.hid hr
  have HM := Lib.hid hm
  have HN := Lib.hid hn
  have HG := Lib.hid hg
  have HINC := Lib.hid hinc
  have HLT := Lib.hid (show ∀ g, (Value.slice B' m d).ownBlock = some g → g < w.heap.size from fun g e => (hown.lt g e).2)
  have HSK := Lib.hid ((ownsRow_own (ys := ks) (by rw [hm]; exact hown)).2.seg)
  have HSI := Lib.hid hs
  have hL4 : L.length < 4096 := hL
  obtain ⟨Af, nf, cf, hcel, hnf, _, _⟩ := hr.cel
  have HCEL := Lib.hid hcel
  have HNF := Lib.hid hnf
  have hcnt : (offL (litI ts) (worthF ts val L)).2.2 ≤ 4096 := by have := offL_count (litI ts) (worthF ts val L); have := worthF_len ts val L; omega
  have hlug := hr.ext (q0, (Obj.cells #[.slice A n c, .int .i64 W, .int .i64 B] 62 (0, 0))) (by simp)
  have hvl := hr.ext (q1, .cells #[.int .i64 val] 3 (0, 0)) (by simp)
  have HL0 := Lib.hid (show w.cell? ⟨q0, 0, none⟩ = some (.slice A n c) ∧ w.cell? ⟨q0, 1, none⟩ = some (.int .i64 W) ∧ w.cell? ⟨q0, 2, none⟩ = some (.int .i64 B) ∧ w.cell? ⟨q1, 0, none⟩ = some (.int .i64 val) from ⟨cell_of hlug 0, cell_of hlug 1, cell_of hlug 2, cell_of hvl 0⟩)
  have hPw : P0 ≤ w.heap.size := by omega
  have hex : ∀ p ∈ [(q0, (Obj.cells #[.slice A n c, .int .i64 W, .int .i64 B] 62 (0, 0))), (q1, Obj.cells #[.int .i64 val] 3 (0, 0))], p.1 < P0 := by simp [h0, h1]
  obtain ⟨vs, hvs⟩ : ∃ vs, valI ts ks = vs := ⟨_, rfl⟩
  have HVAL := Lib.hid (show sumF (vI ts) ks = vs from hvs)
  have HVS := Lib.hid hvs
  have hsw := sumF_bd (wI_f HG.out) ks
  rw [HM.out] at hsw
  obtain ⟨sw, hswe⟩ : ∃ sw, sumF (wI ts) ks = sw := ⟨_, rfl⟩
  rw [hswe] at hsw
  have HSWE := Lib.hid hswe
  have hneg : IntKind.i64.wrap (-sw) = -sw := by rw [IntKind.wrap_i64]; omega
  have HLIT := Lib.hid (show litI ts ks = -sw by unfold litI; rw [hswe])
  have HPW := Lib.hid (pick_w ts ks)
  have HPL := Lib.hid (show (pickL ts ks).length = m by rw [pickL_length, hm])
  clear hm hn hg hinc hown hs hr hcel hnf hlug hvl hL hvs hswe
  go_enter Try.func68, Try.ntmps68
  go_wp2_with fail
  refine wp_region_held_drew (S := (fun wq => wq.cell? ⟨q0, 0, none⟩ = some (.slice A n c) ∧ wq.cell? ⟨q0, 1, none⟩ = some (.int .i64 W) ∧ wq.cell? ⟨q0, 2, none⟩ = some (.int .i64 B) ∧ wq.cell? ⟨q1, 0, none⟩ = some (.int .i64 val))) (by kernel_rfl) HL0.out (fun hH0 => ?_)
  refine wpAnyH_take (i := 0) (v := ?_) (ops_at rfl) (by kernel_rfl) (by kernel_rfl) (by kernel_rfl) (fun _ _ _ h => h) (Or.inl ⟨by rfl, ?ya0⟩) (by assumption) ?na0
  case ya0 => (intro wS hSw; (try dsimp only at hSw); go_simp; try rfl)
  try simp only [Act.put, List.setIfInBounds_toArray, List.set_cons_zero, List.set_cons_succ]
  refine wpAnyH_take (i := 1) (v := ?_) (ops_at rfl) (by kernel_rfl) (by kernel_rfl) (by kernel_rfl) (fun _ _ _ h => h) (Or.inl ⟨by rfl, ?ya1⟩) (by assumption) ?na1
  case ya1 => (intro wS hSw; (try dsimp only at hSw); go_simp; try rfl)
  try simp only [Act.put, List.setIfInBounds_toArray, List.set_cons_zero, List.set_cons_succ]
  refine wpAnyH_take (i := 3) (v := ?_) (ops_at rfl) (by kernel_rfl) (by kernel_rfl) (by kernel_rfl) (fun _ _ _ h => h) (Or.inl ⟨by rfl, ?ya3⟩) (by assumption) ?na3
  case ya3 => (intro wS hSw; (try dsimp only at hSw); go_simp; try rfl)
  try simp only [Act.put, List.setIfInBounds_toArray, List.set_cons_zero, List.set_cons_succ]
  refine wpAnyH_ready (rs := [2]) (by kernel_rfl) (by simp) ?_
  refine AllReadyH.cons (ops_at rfl) (fun K hK => ?_) AllReadyH.nil
  go_simp
  refine (valueOf_any A B' n c m d W B ts ks lo hi _ _ _ HN.out HG.out HM.out HINC.out (HSI.out.keep (w' := w.drew) fun _ _ _ => rfl) (by show hi ≤ w.heap.size; omega) (HSK.out.keep (w' := w.drew) fun _ _ _ => rfl) (Nat.le_refl _)).mono ?_
  rintro e w1 ⟨rfl, hb1'⟩
  have hb1 : Below w.heap.size w w1 := ⟨hb1'.os, hb1'.tape, hb1'.output, hb1'.size, hb1'.block⟩
  clear hb1'
  have hz1 := hb1.size
  have HB1 := Lib.hid hb1
  have HR1 := Lib.hid ((RG.keeps h2 hex).below _ _ _ _ HR.out hb1)
  have hc1 := (hb1.block _ (heap_lt HCEL.out)).trans HCEL.out
  have HC1 := Lib.hid hc1
  have HL1 := Lib.hid (show w1.cell? ⟨q0, 0, none⟩ = some (.slice A n c) ∧ w1.cell? ⟨q0, 1, none⟩ = some (.int .i64 W) ∧ w1.cell? ⟨q0, 2, none⟩ = some (.int .i64 B) ∧ w1.cell? ⟨q1, 0, none⟩ = some (.int .i64 val) from ⟨(hb1.cell (Nat.lt_of_lt_of_le h0 hPw)).trans HL0.out.1, (hb1.cell (Nat.lt_of_lt_of_le h0 hPw)).trans HL0.out.2.1, (hb1.cell (Nat.lt_of_lt_of_le h0 hPw)).trans HL0.out.2.2.1, (hb1.cell (Nat.lt_of_lt_of_le h1 hPw)).trans HL0.out.2.2.2⟩)
  have HSK1 := Lib.hid (HSK.out.below hb1 (Nat.le_refl _))
  have HSI1 := Lib.hid (HSI.out.below hb1 (by omega))
  clear hb1 hc1
  rw [HVAL.out]
  refine hK.out _ _ HL1.out (fun hH1 => ?_)
  clear hK K
  refine wpAnyH_take (i := 4) (v := ?_) (ops_at rfl) (by kernel_rfl) (by kernel_rfl) (by kernel_rfl) (fun _ _ _ h => h) (Or.inl ⟨by rfl, ?yb4⟩) (by assumption) ?nb4
  case yb4 => (intro wS hSw; (try dsimp only at hSw); go_simp; try rfl)
  try simp only [Act.put, List.setIfInBounds_toArray, List.set_cons_zero, List.set_cons_succ]
  refine wpAnyH_done (by kernel_rfl) ?_ _
  by_cases hge : val ≤ vs
  · have hd : decide (val ≤ vs) = true := decide_eq_true hge
    obtain ⟨l0, l1, l2, l3⟩ := HL1.out
    go_wp2_with fail
    refine (picked_any A B' n c m d W B ts ks lo hi _ _ _ HN.out HG.out HM.out HINC.out HSI1.out (by omega) HSK1.out hz1).mono ?_
    rintro e w2 ⟨A', c', rfl, ho2, hb2⟩
    have hz2 := hb2.size
    have HB2 := Lib.hid (HB1.out.trans (hb2.mono hz1))
    have HO2 := Lib.hid ho2
    have HR2 := Lib.hid ((RG.keeps h2 hex).below _ _ _ _ HR1.out hb2)
    have HC2 := Lib.hid ((hb2.block _ (heap_lt HC1.out)).trans HC1.out)
    have HSK2 := Lib.hid (HSK1.out.below hb2 hz1)
    clear ho2 hb2 l0 l1 l2 l3
    go_wp2_with fail
    refine (sum_weight A' m c' (pickL ts ks) _ _ _ HPL.out (by rw [HPL.out]; exact hm10) (pickL_ok HG.out ks) HO2.out.seg (Nat.le_refl _)).mono ?_
    rw [HPW.out, HSWE.out]
    rintro e w3 ⟨rfl, hb3⟩
    have hz3 := hb3.size
    have HB3 := Lib.hid (HB2.out.trans (hb3.mono HB2.out.size))
    have HR3 := Lib.hid ((RG.keeps h2 hex).below _ _ _ _ HR2.out hb3)
    have HC3 := Lib.hid ((hb3.block _ (heap_lt HC2.out)).trans HC2.out)
    have HSK3 := Lib.hid (HSK2.out.below hb3 (by omega))
    clear hb3
    go_wp2_with fail
    refine (offer_any q2 _ _ _ Af nf cf B' m d ks _ _ _ _ HC3.out HNF.out hcnt HM.out (by omega) HSK3.out (by omega)).mono ?_
    intro e w4 hk
    obtain rfl := hk.1
    rw [← HLIT.out] at hk
    have HKK := Lib.hid hk
    clear hk
    go_wp2
    go_end0
    obtain ⟨_, _, _, _, _, _, _, ho⟩ := id HKK.out
    exact ⟨rfl, RG.step (fl := worthF ts val) h2 (by simp [h0, h1, h02, h12]) (by omega) (fun g e => Nat.lt_of_lt_of_le (HLT.out g e) (by omega)) HR3.out HC3.out (worthF_yes (by rw [HVS.out]; exact hge)) HKK.out,
      fun k hk0 hk1 => (ho.block k (by omega) (fun e => by omega)).trans (HB3.out.block k hk1), (HB3.out.mono hb).trans (ho.below (by omega) (fun k hk => by have hk' : k = q2 := hk; omega))⟩
  · have hd : decide (val ≤ vs) = false := decide_eq_false hge
    go_wp2
    go_end0
    have hr1 := HR1.out
    have hno := worthF_no (ts := ts) (val := val) (L := L) (ks := ks) (by rw [HVS.out]; omega)
    exact ⟨rfl, ⟨hr1.size, hr1.far, hr1.ext, by rw [hno]; exact hr1.cel⟩, fun k hk0 hk1 => HB1.out.block k hk1, HB1.out.mono hb⟩
end Go.Proofs.Ytmgloknghoeheaa

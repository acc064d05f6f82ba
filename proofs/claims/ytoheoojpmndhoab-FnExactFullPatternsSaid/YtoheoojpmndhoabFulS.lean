/-
  The given program's list of the full patterns that go on from one.
  Conditions: there are at most 4 lengths, and one at least.
-/
import Derived.Test.YtoheoojpmndhoabFulW
import Derived.Test.YtoheoojpmndhoabL1Own
namespace Go.Proofs.Ytoheoojpmndhoab
set_option linter.unusedVariables false
set_option linter.unusedSimpArgs false
open Go.RowKit

/-- As Lst, and all of it lies below w0. -/
def LstU (w : World) (B T base : Nat) (X : Nat → Prop) (w0 : Nat) (L : List (List Int)) : Prop :=
  ∃ v vs, w.heap[B]? = some (.cells #[v] T (0, 0)) ∧ Rws w base v L vs ∧ B < base ∧ base ≤ w0 ∧ w0 ≤ w.heap.size ∧ (∀ p, X p → base ≤ p ∧ v.ownBlock ≠ some p ∧ Rows1 w base (some p) L vs) ∧ AscF vs ∧ UpF vs w0 ∧ ∀ g, v.ownBlock = some g → g < w0
section
variable {w w' : World} {B T base w0 : Nat} {X : Nat → Prop} {L : List (List Int)}
theorem Lst.u (h : Lst w B T base X L) : LstU w B T base X w.heap.size L := by
  obtain ⟨v, vs, h1, h2, h3, h4, h5, h6, h7⟩ := h
  exact ⟨v, vs, h1, h2, h3, h4, Nat.le_refl _, h5, h6, h7, fun g e => (h2.1.lt g e).2⟩
theorem LstU.below (h : LstU w B T base X w0 L) (hb : Below w0 w w') : LstU w' B T base X w0 L := by
  obtain ⟨v, vs, h1, h2, h3, h4, h5, h6, h7, h8, h9⟩ := h
  have hk : ∀ ob, Rows1 w base ob L vs → Rows1 w' base ob L vs := fun ob hr => by
    refine ⟨hr.1, fun j xs hj => ?_⟩
    obtain ⟨B', c, e, ho, hf⟩ := hr.2 j xs hj
    refine ⟨B', c, e, ?_, hf⟩
    by_cases hx : xs = []
    · exact .inl hx
    · obtain ⟨g, hg⟩ := ho.head_ hx
      have hl := ho.lt_ hx hg
      have hgu := h8 _ (List.mem_of_getElem? e) g (by rw [hg]; rfl)
      rcases ho with h | ⟨b, cs, T', e', q1, q2, hb', hc⟩
      · exact absurd h hx
      · rw [hg] at e'
        injection e' with e'
        injection e' with e1 e2
        subst e1
        exact .inr ⟨g, cs, T', hg, q1, by have := hb.size; omega, (hb.block g hgu).trans hb', hc⟩
  refine ⟨v, vs, (hb.block B (by omega)).trans h1, ⟨?_, hk _ h2.2⟩, h3, h4, Nat.le_trans h5 hb.size, fun p hp => ⟨(h6 p hp).1, (h6 p hp).2.1, hk _ (h6 p hp).2.2⟩, h7, h8, h9⟩
  obtain ⟨q0, q1⟩ := h2.1
  refine ⟨q0, ?_⟩
  rcases q1 with q1 | ⟨g, cap, cur, hv, hg, hbb, hr⟩
  · exact .inl q1
  · exact .inr ⟨g, cap, cur, hv, hg, (hb.block g (h9 g (by rw [hv]; rfl))).trans hbb, hr⟩
theorem LstU.far (h : LstU w B T base X w0 L) {Y : Nat → Prop} (hy : ∀ p, Y p → X p ∨ w0 ≤ p) : Lst w B T base Y L := by
  obtain ⟨v, vs, h1, h2, h3, h4, h5, h6, h7, h8, h9⟩ := h
  refine ⟨v, vs, h1, h2, h3, by omega, fun p hp => ?_, h7, h8.mono h5⟩
  rcases hy p hp with hp | hp
  · exact h6 p hp
  · refine ⟨by omega, fun e => by have := h9 p e; omega, h2.2.1, fun j xs hj => ?_⟩
    obtain ⟨B', c, e, ho, hf⟩ := h2.2.2 j xs hj
    refine ⟨B', c, e, ho, fun hx g hg e' => ?_⟩
    have := h8 _ (List.mem_of_getElem? e) g (by rw [hg]; rfl)
    injection e' with e'
    omega
end

set_option maxHeartbeats 2000000 in
set_option maxRecDepth 100000 in
theorem rdLook_leaf (A : Option Addr) (n c : Nat) (zs : List Int) (lo hi B T base : Nat) (hn : zs.length = n) (hn1 : 1 ≤ n) (h4 : n ≤ 4) (hiB : hi ≤ B)
    (beg : List Int) (Lf : Int) (A2 : Option Addr) (c2 : Nat) (X : Nat → Prop) (w0 : Nat) (L : List (List Int)) (w : World) (hm : beg.length = n) (hs : Seg w lo hi A zs) (hbg : Own w w0 w.heap.size A2 beg) (hL : LstU w B T base X w0 L) (hX : ∀ p, X p → p < w0) (hlen : L.length < 4194304) :
    Calls Try.prog 28 #[.int .i64 Lf, .slice A n c, .slice A2 n c2, .pointer (some ⟨B, 0, none⟩)] w (RetF B T base X (L ++ fullL (zs.getD 0 0) beg Lf) w) := by
  obtain ⟨j0, hj0, hy0, hy1, hy2⟩ := info_parts rowsF_info
  obtain ⟨p, hd⟩ : ∃ p, decide (Lf < zs.getD 0 0) = p := ⟨_, rfl⟩
  have hFL : fullL (zs.getD 0 0) beg Lf = if p = true then [beg] else [] := by
    rw [fullL, ← hd]; simp
  obtain ⟨FL, hfl⟩ : ∃ FL, fullL (zs.getD 0 0) beg Lf = FL := ⟨_, rfl⟩
  rw [hfl]
  rw [hfl] at hFL
  clear hfl
  have HLB := Lib.hid (hL.far (Y := X) (fun p hp => .inl hp))
  obtain ⟨v, vs, k1, k2, k3, k4, k5, k6, k7, k8, k9⟩ := hL
  obtain ⟨Av, cv, rfl⟩ := k2.form
  obtain ⟨nl, hnl⟩ : ∃ nl, L.length = nl := ⟨_, rfl⟩
  have HNL := Lib.hid hnl
  rw [hnl] at k1 k2 k6 k9 hlen
  obtain ⟨b0, off0, z0, rfl, _, hb0, hx0, hc0⟩ := hs.at_ (k := 0) (by omega)
  have hcz : w.cell? ⟨b0, off0, none⟩ = some (.int .i64 z0) := hc0
  have e0 : zs.getD 0 0 = z0 := by simp [List.getD, hx0]
  rw [e0] at hd
  have HD := Lib.hid hd
  have HM := Lib.hid hm
  have HBG := Lib.hid hbg
  have HFL := Lib.hid hFL
  have K2 := Lib.hid k2
  have K6 := Lib.hid k6
  have K7 := Lib.hid k7
  have K8 := Lib.hid k8
  have K9 := Lib.hid k9
  have HX := Lib.hid hX
  have hnn : ((n : Int) == (n : Int)) = true := by simp
  have hBs := heap_lt k1
  clear hn hd hFL hnl k2 k6 k7 k8 k9 hX hx0 hc0 hm hbg e0
  cases p
  · have hlt : decide (Lf < z0) = false := HD.out
    go_enter Try.func28, Try.ntmps28
    go_wp2_with fail
    go_end0
    exact ⟨rfl, by rw [HFL.out, if_neg (by decide), List.append_nil]; exact HLB.out, Only.refl _ _⟩
  · have hlt : decide (Lf < z0) = true := HD.out
    go_enter Try.func28, Try.ntmps28
    have hb4 : Below w.heap.size w (w.alloc (.cells #[.slice A2 n c2] 22)) := (Below.refl w.heap.size w).alloc (Nat.le_refl _) _
    have r4 := row_oneF (w := w) (Nat.le_refl _) (.slice A2 n c2)
    have hz4 : (w.alloc (.cells #[.slice A2 n c2] 22)).heap.size = w.heap.size + 1 := by simp
    have G14 := Lib.hid ((hb4.block B (by omega)).trans k1)
    have K24 := Lib.hid (K2.out.below hb4)
    have K54 := Lib.hid (fun p hp => (⟨(K6.out p hp).1, (K6.out p hp).2.1, (K6.out p hp).2.2.below hb4⟩ : base ≤ p ∧ (Value.slice Av nl cv).ownBlock ≠ some p ∧ Rows1 (w.alloc (.cells #[.slice A2 n c2] 22)) base (some p) L vs))
    have HO4 := Lib.hid (HBG.out.below hb4 (Nat.le_refl _))
    have HON4 := Lib.hid (Only.of_below (S := FarX B base X) hb4 (Nat.le_refl _))
    have HR4 := Lib.hid r4
    have HZ4 := Lib.hid hz4
    have c0w := cell_of k1 0
    simp only [List.getElem?_toArray, List.getElem?_cons_zero, List.getElem?_cons_succ] at c0w
    clear hb4 r4 hz4 k1
    go_wp2_with (at_builtin; refine wpList_append_rows _ rfl (.tmp 22) (.tmp 24) 23 rfl base 22 j0 Try.underlying23 hj0 hy0 hy1 hy2 _ nl vs rfl (by have h := K24.out.1; rw [HNL.out] at h; exact h) w.heap.size _ 1 _ rfl HR4.out (fun u hu => by rw [List.mem_singleton.1 hu]; rfl) (by omega) (by have := HZ4.out; omega) ?_; intro vb xb hob hgb hloc; obtain ⟨Ab, cb, rfl⟩ := ownsRow_form hob; have FIN := Lib.hid (lst_app (xs := beg) (m := n) (c := c2) (B' := A2) (w0 := w0) (W := w) G14.out K24.out k3 (by have := HZ4.out; omega) K54.out HX.out k4 (by have := HZ4.out; omega) HM.out (HO4.out.more (Nat.le_refl _) (by have := HZ4.out; omega)) K9.out (fun h => by have := congrArg List.length h; rw [HM.out] at this; simp at this; omega) K7.out K8.out (by rw [HNL.out]; exact hob) hgb hloc); have HON5 := Lib.hid ((onlyGrew HON4.out hgb (fun g hg => .inr ⟨(K2.out.1.lt g hg).1, fun hx => (K6.out g hx).2.1 hg⟩)).setCell (p := ⟨B, 0, none⟩) (.inl rfl) (.slice Ab (nl + 1) cb)); have c0b := cell_of FIN.out.2 0; have f0b := frozen_of FIN.out.2 0; simp only [List.getElem?_toArray, List.getElem?_cons_zero, List.getElem?_cons_succ] at c0b; clear hob hgb hloc)
    go_end0
    have hfl : FL = [beg] := by simpa using HFL.out
    exact ⟨rfl, by rw [hfl]; exact FIN.out.1, HON5.out⟩
set_option maxHeartbeats 4000000 in
set_option maxRecDepth 100000 in
theorem rdLook_any (A : Option Addr) (n c : Nat) (zs : List Int) (lo hi B T base : Nat) (hn : zs.length = n) (hn1 : 1 ≤ n) (h4 : n ≤ 4) (hz : ∀ (k : Nat) u, zs[k]? = some u → 1 ≤ u ∧ u ≤ 60) (hiB : hi ≤ B) (k : Nat) :
    ∀ (next : Nat) (beg : List Int) (Lf : Nat) (A2 : Option Addr) (c2 : Nat) (X : Nat → Prop) (w0 : Nat) (L : List (List Int)) (w : World), next + k = n → beg.length = next → Lf ≤ 60 → Seg w lo hi A zs → Own w w0 w.heap.size A2 beg → LstU w B T base X w0 L → (∀ p, X p → p < w0) →
      L.length + (lookF (zs.getD 0 0) (zs.drop next) beg Lf).length ≤ 4194303 →
      Calls Try.prog 28 #[.int .i64 (Lf : Int), .slice A n c, .slice A2 next c2, .pointer (some ⟨B, 0, none⟩)] w (RetF B T base X (L ++ lookF (zs.getD 0 0) (zs.drop next) beg Lf) w) := by
  induction k with
  | zero =>
    intro next beg Lf A2 c2 X w0 L w hkn hm hLf hs hbg hL hX hlen
    obtain rfl : n = next := by omega
    have e1 : lookF (zs.getD 0 0) (zs.drop n) beg Lf = fullL (zs.getD 0 0) beg Lf := by
      rw [List.drop_of_length_le (by omega)]; rfl
    rw [e1]
    exact rdLook_leaf A n c zs lo hi B T base hn hn1 h4 hiB beg Lf A2 c2 X w0 L w hm hs hbg hL hX (by omega)
  | succ k ih =>
    intro next beg Lf A2 c2 X w0 L w hkn hm hLf hs hbg hL hX hlen
    obtain ⟨i0, hi0, hy0, hy1, hy2⟩ := info_parts int_info
    obtain ⟨l, hl⟩ : ∃ l, zs[next]? = some l := ⟨zs[next]'(by omega), List.getElem?_eq_getElem (by omega)⟩
    have hlb := hz next l hl
    obtain ⟨q, rfl⟩ : ∃ q : Nat, l = (q : Int) := ⟨l.toNat, by omega⟩
    have hq1 : 0 < q := by omega
    have hd : zs.drop next = (q : Int) :: zs.drop (next + 1) := by
      have hlt : next < zs.length := (List.getElem?_eq_some_iff.1 hl).1
      rw [List.drop_eq_getElem_cons hlt]
      have : zs[next] = (q : Int) := by rw [List.getElem?_eq_getElem hlt] at hl; injection hl
      rw [this]
    obtain ⟨Q, hQ⟩ : ∃ Q, Lf / q = Q := ⟨_, rfl⟩
    obtain ⟨r, hrr⟩ : ∃ r, zs.drop (next + 1) = r := ⟨_, rfl⟩
    obtain ⟨z0, hz0⟩ : ∃ z0, zs.getD 0 0 = z0 := ⟨_, rfl⟩
    have hQI : ((Lf : Int) / (q : Int)).toNat = Q := by rw [← hQ]; exact Int.toNat_natCast (Lf / q)
    have hall : lookF (zs.getD 0 0) (zs.drop next) beg Lf = lookK z0 q r beg Lf (Q + 1) := by
      rw [hd, hrr, hz0, lookF_cons, hQI]
    rw [hall] at hlen ⊢
    obtain ⟨bz, oz, l', rfl, _, hbz, hx', hcz⟩ := hs.at_ (k := next) (by omega)
    obtain rfl : (q : Int) = l' := by rw [hl] at hx'; injection hx'
    have hQ60 : Q ≤ 60 := by rw [← hQ]; exact Nat.le_trans (Nat.div_le_self Lf q) hLf
    have hbb : base ≤ w0 ∧ w0 ≤ w.heap.size ∧ B < base := by obtain ⟨_, _, _, _, h3, h4, h5, _⟩ := hL; exact ⟨h4, h5, h3⟩
    have hnn : ((next : Int) == (n : Int)) = false := by rw [beq_eq_false_iff_ne]; omega
    have hnx : (next : Int) < (n : Int) := by omega
    have HL0 := Lib.hid (hL.far (Y := fun p => X p ∨ (w0 ≤ p ∧ p < w.heap.size)) (fun p hp => hp.imp id (·.1)))
    have HQQ := Lib.hid hQ
    have IH := Lib.hid ih
    have HN := Lib.hid hn
    have HM := Lib.hid hm
    have HZ := Lib.hid hz
    have HLN := Lib.hid hl
    have HX := Lib.hid hX
    have HLEN := Lib.hid hlen
    have HRR := Lib.hid hrr
    have HZ0 := Lib.hid hz0
    have HS := Lib.hid hs
    have HBG := Lib.hid hbg
    have HCZ := Lib.hid hcz
    clear ih hn hm hz hl hX hlen hrr hz0 hs hbg hL hall hQI hQ hd hcz hx'
    go_enter Try.func28, Try.ntmps28
    go_wp2_with fail
    go_loopw [8] (fun i wr => ∃ x : Nat, x ≤ Q + 1 ∧ i = .int .i64 x ∧ Only (FarX B base X) w wr ∧ Own wr w0 w.heap.size A2 beg ∧ Lst wr B T base (fun p => X p ∨ (w0 ≤ p ∧ p < w.heap.size)) (L ++ lookK z0 q r beg Lf x)) (fun i _ => Q + 1 - (intOf i).toNat)
    case atStart => exact ⟨0, Nat.zero_le _, rfl, Only.refl _ _, HBG.out, by rw [lookK_zero, List.append_nil]; exact HL0.out⟩
    case round =>
      obtain ⟨x, hx, rfl, ho, hbx, hlx⟩ := hrel
      have hzr := ho.size
      have hcz : wr.cell? ⟨bz, oz + next, none⟩ = some (.int .i64 (q : Int)) := (World.cell?_of_block (ho.block bz (by omega) (fun h => by rcases h with h | h <;> omega))).trans HCZ.out
      have hxq2 : (x : Int) * (q : Int) = ((x * q : Nat) : Int) := by simp
      by_cases hlt : x ≤ Q
      · have hxq : x * q ≤ Lf := Nat.le_trans (Nat.mul_le_mul_right q (by rw [HQQ.out]; exact hlt)) (Nat.div_mul_le_self Lf q)
        obtain ⟨y, hy⟩ : ∃ y, x * q = y := ⟨_, rfl⟩
        rw [hy] at hxq2 hxq
        have hul : (Lf : Int) - (x : Int) * (q : Int) = ((Lf - y : Nat) : Int) := by omega
        have hwm : IntKind.i64.wrap ((x : Int) * (q : Int)) = (y : Int) := by rw [hxq2]; exact IntWalk.i64_in _ (by omega)
        have hle : decide ((y : Int) ≤ (Lf : Int)) = true := decide_eq_true (by omega)
        have hwd : IntKind.i64.wrap ((Lf : Int) - (y : Int)) = ((Lf - y : Nat) : Int) := by rw [IntWalk.i64_in _ (by omega)]; omega
        have hlk := lookK_succ z0 q r beg Lf x
        rw [hul] at hlk
        have HLX := Lib.hid (show (L ++ lookK z0 q r beg Lf x).length + (lookF (zs.getD 0 0) (zs.drop (next + 1)) (beg ++ [(x : Int)]) ((Lf - y : Nat) : Int)).length ≤ 4194303 by
          have h1 := lookK_mono (z0 := z0) (q := q) (r := r) (beg := beg) (L := Lf) (show x + 1 ≤ Q + 1 by omega)
          rw [hlk, List.length_append] at h1
          rw [List.length_append, HZ0.out, HRR.out]
          have := HLEN.out
          omega)
        have HNX := Lib.hid (show L ++ lookK z0 q r beg Lf (x + 1) = L ++ lookK z0 q r beg Lf x ++ lookF (zs.getD 0 0) (zs.drop (next + 1)) (beg ++ [(x : Int)]) ((Lf - y : Nat) : Int) by rw [hlk, List.append_assoc, HZ0.out, HRR.out])
        have HO := Lib.hid ho
        have HBX := Lib.hid hbx
        have HLU := Lib.hid hlx.u
        have HSR := Lib.hid (HS.out.only ho (by omega) (fun g hg => by rcases hg with h | h <;> omega))
        clear ho hbx hlx hlk hul hxq2 hy
        go_upto_region 6 with (fail)
        have hc0 : wr.drew.cell? ⟨bz, oz + next, none⟩ = some (.int .i64 (q : Int)) := hcz
        refine wp_region_held_drew (S := (fun wq => wq.cell? ⟨bz, oz + next, none⟩ = some (.int .i64 (q : Int)))) (by kernel_rfl) hcz (fun hH0 => ?_)
        refine wpAnyH_take (i := 0) (v := ?_) (ops_at rfl) (by kernel_rfl) (by kernel_rfl) (by kernel_rfl) (fun _ _ _ h => h) (Or.inl ⟨by rfl, ?ys0⟩) (by assumption) ?ns0
        case ys0 => (intro wS hSw; go_simp; try rfl)
        try simp only [Act.put, List.setIfInBounds_toArray, List.set_cons_zero, List.set_cons_succ]
        refine wpAnyH_take (i := 1) (v := ?_) (ops_at rfl) (by kernel_rfl) (by kernel_rfl) (by kernel_rfl) (fun _ _ _ h => h) (Or.inl ⟨by rfl, ?ys1⟩) (by assumption) ?ns1
        case ys1 => (intro wS hSw; go_simp; try rfl)
        try simp only [Act.put, List.setIfInBounds_toArray, List.set_cons_zero, List.set_cons_succ]
        refine wpAnyH_take (i := 2) (v := ?_) (ops_at rfl) (by kernel_rfl) (by kernel_rfl) (by kernel_rfl) (fun _ _ _ h => h) (Or.inl ⟨by rfl, ?ys2⟩) (by assumption) ?ns2
        case ys2 => (intro wS hSw; go_simp; try rfl)
        try simp only [Act.put, List.setIfInBounds_toArray, List.set_cons_zero, List.set_cons_succ]
        refine wpAnyH_take (i := 3) (v := ?_) (ops_at rfl) (by kernel_rfl) (by kernel_rfl) (by kernel_rfl) (fun _ _ _ h => h) (Or.inl ⟨by rfl, ?ys3⟩) (by assumption) ?ns3
        case ys3 => (intro wS hSw; go_simp; try rfl)
        try simp only [Act.put, List.setIfInBounds_toArray, List.set_cons_zero, List.set_cons_succ]
        refine wpAnyH_take (i := 4) (v := ?_) (ops_at rfl) (by kernel_rfl) (by kernel_rfl) (by kernel_rfl) (fun _ _ _ h => h) (Or.inl ⟨by rfl, ?ys4⟩) (by assumption) ?ns4
        case ys4 => (intro wS hSw; go_simp; try rfl)
        try simp only [Act.put, List.setIfInBounds_toArray, List.set_cons_zero, List.set_cons_succ]
        refine wpAnyH_take (i := 5) (v := ?_) (ops_at rfl) (by kernel_rfl) (by kernel_rfl) (by kernel_rfl) (fun _ _ _ h => h) (Or.inl ⟨by rfl, ?ys5⟩) (by assumption) ?ns5
        case ys5 => (intro wS hSw; go_simp; try rfl)
        try simp only [Act.put, List.setIfInBounds_toArray, List.set_cons_zero, List.set_cons_succ]
        refine wpAnyH_take (i := 6) (v := ?_) (ops_at rfl) (by kernel_rfl) (by kernel_rfl) (by kernel_rfl) (fun _ _ _ h => h) (Or.inl ⟨by rfl, ?ys6⟩) (by assumption) ?ns6
        case ys6 => (intro wS hSw; go_simp; try rfl)
        try simp only [Act.put, List.setIfInBounds_toArray, List.set_cons_zero, List.set_cons_succ]
        refine wpAnyH_take (i := 7) (v := ?_) (ops_at rfl) (by kernel_rfl) (by kernel_rfl) (by kernel_rfl) (fun _ _ _ h => h) (Or.inl ⟨by rfl, ?ys7⟩) (by assumption) ?ns7
        case ys7 => (intro wS hSw; go_simp; try rfl)
        try simp only [Act.put, List.setIfInBounds_toArray, List.set_cons_zero, List.set_cons_succ]
        refine wpAnyH_take (i := 8) (v := ?_) (ops_at rfl) (by kernel_rfl) (by kernel_rfl) (by kernel_rfl) (fun _ _ _ h => h) (Or.inl ⟨by rfl, ?ys8⟩) (by assumption) ?ns8
        case ys8 => (intro wS hSw; go_simp; try rfl)
        try simp only [Act.put, List.setIfInBounds_toArray, List.set_cons_zero, List.set_cons_succ]
        refine wpAnyH_take (i := 9) (v := ?_) (ops_at rfl) (by kernel_rfl) (by kernel_rfl) (by kernel_rfl) (fun _ _ _ h => h) (Or.inl ⟨by rfl, ?ys9⟩) (by assumption) ?ns9
        case ys9 => (intro wS hSw; go_simp; try rfl)
        try simp only [Act.put, List.setIfInBounds_toArray, List.set_cons_zero, List.set_cons_succ]
        refine wpAnyH_take (i := 10) (v := ?_) (ops_at rfl) (by kernel_rfl) (by kernel_rfl) (by kernel_rfl) (fun _ _ _ h => h) (Or.inl ⟨by rfl, ?ys10⟩) (by assumption) ?ns10
        case ys10 => (intro wS hSw; go_simp; try rfl)
        try simp only [Act.put, List.setIfInBounds_toArray, List.set_cons_zero, List.set_cons_succ]
        refine wpAnyH_take (i := 12) (v := ?_) (ops_at rfl) (by kernel_rfl) (by kernel_rfl) (by kernel_rfl) (fun _ _ _ h => h) (Or.inl ⟨by rfl, ?ys12⟩) (by assumption) ?ns12
        case ys12 => (intro wS hSw; go_simp; try rfl)
        try simp only [Act.put, List.setIfInBounds_toArray, List.set_cons_zero, List.set_cons_succ]
        refine wpAnyH_take (i := 15) (v := ?_) (ops_at rfl) (by kernel_rfl) (by kernel_rfl) (by kernel_rfl) (fun _ _ _ h => h) (Or.inl ⟨by rfl, ?ys15⟩) (by assumption) ?ns15
        case ys15 => (intro wS hSw; go_simp; try rfl)
        try simp only [Act.put, List.setIfInBounds_toArray, List.set_cons_zero, List.set_cons_succ]
        obtain ⟨w3, hw3⟩ : ∃ w3, wr.drew = w3 := ⟨_, rfl⟩
        have hb3 : Below wr.heap.size wr w3 := by rw [← hw3]; exact (Below.refl _ _).drew
        rw [hw3] at hH0 ⊢
        clear hw3 hc0
        have hz3 := hb3.size
        have HBS := Lib.hid (HBX.out.seg.below hb3 (by omega))
        refine wpAnyH_ready (rs := [11, 13]) (by kernel_rfl) (by simp) ?_
        refine AllReadyH.cons (ops_at rfl) (fun K hK => ?_) (AllReadyH.cons (ops_at rfl) (fun K hK => ?_) AllReadyH.nil)
        · go_simp
          refine (l1Own_any A2 next c2 beg w0 w.heap.size w3 HM.out (by omega) HBS.out (by omega)).mono ?_
          rintro e w4 ⟨A5, c5, rfl, hown4, hb4⟩
          have hz4 := hb4.size
          have hc4 := (hb4.cell (cell_lt hH0)).trans hH0
          refine hK.out _ _ hc4 (fun hH4 => ?_)
          clear hK K
          refine wpAnyH_ready (rs := [13]) (by kernel_rfl) (by simp) ?_
          refine AllReadyH.cons (ops_at rfl) (fun K hK => ?_) AllReadyH.nil
          go_simp
          have hb5 := (Below.refl w4.heap.size w4).alloc (Nat.le_refl _) (.cells #[.int .i64 (x : Int)] 3)
          have HOW := Lib.hid (hown4.alloc (.cells #[.int .i64 (x : Int)] 3))
          have HS5 := Lib.hid (seg_one w4 (x : Int) 3)
          obtain ⟨w5, hw5⟩ : ∃ w5, w4.alloc (.cells #[.int .i64 (x : Int)] 3) = w5 := ⟨_, rfl⟩
          have hz5 := hb5.size
          rw [hw5] at hb5 HOW HS5 hz5 ⊢
          clear hw5 hown4
          have hc5 := (hb5.cell (cell_lt hH4)).trans hH4
          refine hK.out _ _ hc5 (fun hH5 => ?_)
          clear hK K hH4 hc4 hc5
          obtain ⟨b5, hb5e⟩ : ∃ b5, w3.heap.size = b5 := ⟨_, rfl⟩
          have HB5 := Lib.hid (hb3.trans ((hb4.trans (hb5.mono hz4)).mono hz3))
          rw [hb5e] at HOW
          clear hb4 hb5 hb3
          refine wpAnyH_ready (rs := [14]) (by kernel_rfl) (by simp) ?_
          refine AllReadyH.cons (ops_at rfl) (fun K hK => ?_) AllReadyH.nil
          refine step_append_seg _ rfl (.tmp 49) (.tmp 51) 22 rfl b5 3 i0 Try.underlying22 hi0 hy0 hy1 hy2 _ next _ rfl HOW.out _ 1 1 [(x : Int)] _ _ rfl rfl HS5.out (by omega) (by omega) ?_
          intro v6 w6 hown6 hgr6
          obtain ⟨A6, c6, rfl⟩ := ownsRow_form hown6
          have hm6 : (beg ++ [(x : Int)]).length = next + 1 := by rw [List.length_append, HM.out]; rfl
          have HM6 := Lib.hid hm6
          have HA6 := Lib.hid (ownsRow_own (ys := beg ++ [(x : Int)]) (by rw [hm6, List.map_append]; exact hown6)).2
          have hlt5 := HOW.out.lt
          have hz6 := hgr6.size
          have HB6 := Lib.hid (HB5.out.grown hgr6 (by omega) (fun g hg => by have := (hlt5 g hg).1; omega))
          have hc6 := (hgr6.cell hH5 (fun e => by have := (hlt5 bz e.symm).1; omega))
          refine hK.out _ _ hc6 (fun hH6 => ?_)
          clear hK K hown6 hgr6 hc6 hm6
          refine wpAnyH_ready (rs := [16]) (by kernel_rfl) (by simp) ?_
          refine AllReadyH.cons (ops_at rfl) (fun K hK => ?_) AllReadyH.nil
          go_simp
          refine (IH.out (next + 1) (beg ++ [(x : Int)]) (Lf - y) A6 c6 (fun p => X p ∨ (w0 ≤ p ∧ p < w.heap.size)) wr.heap.size (L ++ lookK z0 q r beg Lf x) w6 (by omega) HM6.out (by omega) (HSR.out.below HB6.out (by omega)) (HA6.out.more (by omega) (Nat.le_refl _)) (HLU.out.below HB6.out) (fun p hp => by rcases hp with h | h; (have := HX.out p h; omega); omega) HLX.out).mono ?_
          rintro e w7 ⟨rfl, hl7, ho7⟩
          have hz7 := ho7.size
          have HL7 := Lib.hid hl7
          have HO7 := Lib.hid ((HO.out.trans (Only.of_below HB6.out (Nat.le_refl _))).trans (ho7.mono (farX_mono (fun p hp => .inl hp))))
          have HBG7 := Lib.hid ((HBX.out.below HB6.out (by omega)).only ho7 (by omega) (fun g hg => by
            rcases hg with h | h
            · omega
            · have h2 := h.2
              simp only [not_or, not_and] at h2
              have := h2.2
              omega))
          have hc7 := (World.cell?_of_block (a := ⟨bz, oz + next, none⟩) (ho7.block bz (by have := cell_lt hH6; exact this) (fun h => by rcases h with h | h <;> omega))).trans hH6
          refine hK.out _ _ hc7 (fun hH7 => ?_)
          clear hK K hl7 ho7 hc7 hH7 hH6 hH5 hH0
          refine wpAnyH_done (by kernel_rfl) ?_ _
          go_wp2
          go_roundw
          case rel => exact ⟨x + 1, by omega, by go_num, HO7.out, HBG7.out, by rw [HNX.out]; exact HL7.out⟩
          case measure => simp [intOf]; omega
        · go_simp
          have hb4 := (Below.refl w3.heap.size w3).alloc (Nat.le_refl _) (.cells #[.int .i64 (x : Int)] 3)
          have hs4 := seg_one w3 (x : Int) 3
          obtain ⟨w4, hw4⟩ : ∃ w4, w3.alloc (.cells #[.int .i64 (x : Int)] 3) = w4 := ⟨_, rfl⟩
          have hz4' : w4.heap.size = w3.heap.size + 1 := by rw [← hw4]; simp
          have hz4 := hb4.size
          rw [hw4] at hb4 hs4 hz4 ⊢
          clear hw4
          have hc4 := (hb4.cell (cell_lt hH0)).trans hH0
          refine hK.out _ _ hc4 (fun hH4 => ?_)
          clear hK K
          refine wpAnyH_ready (rs := [11]) (by kernel_rfl) (by simp) ?_
          refine AllReadyH.cons (ops_at rfl) (fun K hK => ?_) AllReadyH.nil
          go_simp
          refine (l1Own_any A2 next c2 beg w0 w.heap.size w4 HM.out (by omega) (HBS.out.below hb4 (by omega)) (by omega)).mono ?_
          rintro e w5 ⟨A5, c5, rfl, hown5, hb5⟩
          have hz5 := hb5.size
          have HOW := Lib.hid hown5
          have HS5 := Lib.hid (hs4.below hb5 (by omega))
          have hc5 := (hb5.cell (cell_lt hH4)).trans hH4
          refine hK.out _ _ hc5 (fun hH5 => ?_)
          clear hK K hH4 hc4 hc5 hown5 hs4
          obtain ⟨b5, hb5e⟩ : ∃ b5, w4.heap.size = b5 := ⟨_, rfl⟩
          have HB5 := Lib.hid (hb3.trans ((hb4.trans (hb5.mono hz4)).mono hz3))
          rw [hb5e] at HOW
          clear hb4 hb5 hb3
          refine wpAnyH_ready (rs := [14]) (by kernel_rfl) (by simp) ?_
          refine AllReadyH.cons (ops_at rfl) (fun K hK => ?_) AllReadyH.nil
          refine step_append_seg _ rfl (.tmp 49) (.tmp 51) 22 rfl b5 3 i0 Try.underlying22 hi0 hy0 hy1 hy2 _ next _ rfl HOW.out _ 1 1 [(x : Int)] _ _ rfl rfl HS5.out (by omega) (by omega) ?_
          intro v6 w6 hown6 hgr6
          obtain ⟨A6, c6, rfl⟩ := ownsRow_form hown6
          have hm6 : (beg ++ [(x : Int)]).length = next + 1 := by rw [List.length_append, HM.out]; rfl
          have HM6 := Lib.hid hm6
          have HA6 := Lib.hid (ownsRow_own (ys := beg ++ [(x : Int)]) (by rw [hm6, List.map_append]; exact hown6)).2
          have hlt5 := HOW.out.lt
          have hz6 := hgr6.size
          have HB6 := Lib.hid (HB5.out.grown hgr6 (by omega) (fun g hg => by have := (hlt5 g hg).1; omega))
          have hc6 := (hgr6.cell hH5 (fun e => by have := (hlt5 bz e.symm).1; omega))
          refine hK.out _ _ hc6 (fun hH6 => ?_)
          clear hK K hown6 hgr6 hc6 hm6
          refine wpAnyH_ready (rs := [16]) (by kernel_rfl) (by simp) ?_
          refine AllReadyH.cons (ops_at rfl) (fun K hK => ?_) AllReadyH.nil
          go_simp
          refine (IH.out (next + 1) (beg ++ [(x : Int)]) (Lf - y) A6 c6 (fun p => X p ∨ (w0 ≤ p ∧ p < w.heap.size)) wr.heap.size (L ++ lookK z0 q r beg Lf x) w6 (by omega) HM6.out (by omega) (HSR.out.below HB6.out (by omega)) (HA6.out.more (by omega) (Nat.le_refl _)) (HLU.out.below HB6.out) (fun p hp => by rcases hp with h | h; (have := HX.out p h; omega); omega) HLX.out).mono ?_
          rintro e w7 ⟨rfl, hl7, ho7⟩
          have hz7 := ho7.size
          have HL7 := Lib.hid hl7
          have HO7 := Lib.hid ((HO.out.trans (Only.of_below HB6.out (Nat.le_refl _))).trans (ho7.mono (farX_mono (fun p hp => .inl hp))))
          have HBG7 := Lib.hid ((HBX.out.below HB6.out (by omega)).only ho7 (by omega) (fun g hg => by
            rcases hg with h | h
            · omega
            · have h2 := h.2
              simp only [not_or, not_and] at h2
              have := h2.2
              omega))
          have hc7 := (World.cell?_of_block (a := ⟨bz, oz + next, none⟩) (ho7.block bz (by have := cell_lt hH6; exact this) (fun h => by rcases h with h | h <;> omega))).trans hH6
          refine hK.out _ _ hc7 (fun hH7 => ?_)
          clear hK K hl7 ho7 hc7 hH7 hH6 hH5 hH0
          refine wpAnyH_done (by kernel_rfl) ?_ _
          go_wp2
          go_roundw
          case rel => exact ⟨x + 1, by omega, by go_num, HO7.out, HBG7.out, by rw [HNX.out]; exact HL7.out⟩
          case measure => simp [intOf]; omega
      · have hxe : x = Q + 1 := by omega
        obtain ⟨y, hy⟩ : ∃ y, x * q = y := ⟨_, rfl⟩
        rw [hy] at hxq2
        rw [hxe] at hlx hy
        have hyL : Lf < y ∧ y ≤ 120 := by
          have h := Nat.div_add_mod Lf q
          have hm := Nat.mod_lt Lf hq1
          rw [HQQ.out] at h
          have h2 : (Q + 1) * q = q * Q + q := by rw [Nat.succ_mul, Nat.mul_comm]
          omega
        have hwm : IntKind.i64.wrap ((x : Int) * (q : Int)) = (y : Int) := by rw [hxq2]; exact IntWalk.i64_in _ (by omega)
        have hle : decide ((y : Int) ≤ (Lf : Int)) = false := decide_eq_false (by omega)
        have HLR := Lib.hid (hlx.less (Y := X) (fun p hp => .inl hp))
        have HO := Lib.hid ho
        clear hlx ho hbx hxq2 hy hxe
        go_wp2
        go_end0
        exact ⟨rfl, HLR.out, HO.out⟩
end Go.Proofs.Ytoheoojpmndhoab

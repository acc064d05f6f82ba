/-
  The given program's plans of at most so many boxes: the first one and how many there are; the fewest boxes.
  Conditions: one to nine things, each from 1 to 100 and at most the room; a room of 1 to 1000.
-/
import Derived.Test.YtoheoojpmndhoaaFewM
import Derived.Test.YtoheoojpmndhoaaL1Own
import Derived.Test.YtoheoojpmndhoaaAsked
import Derived.Deep.DeepCutAuto
namespace Go.Proofs.Ytoheoojpmndhoaa
set_option linter.unusedVariables false
open Go.RowKit

theorem plansL_count {room : Int} {r pl ls : List Int} (h : ls.length + r.length ≤ 9) : (plansL room r pl ls).length ≤ 10 ^ r.length := by
  induction r generalizing pl ls with
  | nil => simp [plansL]
  | cons x r ih =>
    obtain ⟨T, hT⟩ : ∃ T, 10 ^ r.length = T := ⟨_, rfl⟩
    have hgen : ∀ k, (nodeL room x r pl ls k).length ≤ k * T := by
      intro k
      induction k with
      | zero => simp [nodeL]
      | succ k ihk =>
        by_cases hf : ls.getD k 0 + x ≤ room
        · rw [nodeL_yes hf, List.length_append]
          have h1 := ih (pl := pl ++ [(k : Int)]) (ls := addTo ls k x) (by rw [addTo_length]; simp at h; split <;> omega)
          rw [hT] at h1
          have h2 : (k + 1) * T = k * T + T := Nat.succ_mul _ _
          omega
        · rw [nodeL_no hf]
          have h2 : (k + 1) * T = k * T + T := Nat.succ_mul _ _
          omega
    have h1 := hgen (ls.length + 1)
    rw [nodeL_all] at h1
    have h3 : (ls.length + 1) * T ≤ 10 * T := Nat.mul_le_mul_right _ (by simp at h; omega)
    rw [List.length_cons, Nat.pow_succ, Nat.mul_comm, hT]
    omega

theorem plansM_count {room : Int} {most : Nat} {r pl ls : List Int} (hm : ls.length ≤ most) (h : ls.length + r.length ≤ 9) : (plansM room most r pl ls).length ≤ 1000000000 := by
  rw [plansM_filter hm]
  have h1 := List.length_filter_le (fun p : List Int × List Int => decide (p.2.length ≤ most)) (plansL room r pl ls)
  have h2 := plansL_count (room := room) (pl := pl) h
  have h3 : 10 ^ r.length ≤ 10 ^ 9 := Nat.pow_le_pow_right (by omega) (by omega)
  omega

theorem nodeM_le (room : Int) (most : Nat) (x : Int) (r pl ls : List Int) {k K : Nat} (h : k ≤ K) : (nodeM room most x r pl ls k).length ≤ (nodeM room most x r pl ls K).length := by
  obtain ⟨d, rfl⟩ : ∃ d, K = k + d := ⟨K - k, by omega⟩
  induction d with
  | zero => exact Nat.le_refl _
  | succ d ih =>
    refine Nat.le_trans (ih (by omega)) ?_
    rw [← Nat.add_assoc]
    by_cases hf : k + d < most ∧ ls.getD (k + d) 0 + x ≤ room
    · rw [nodeM_yes hf.1 hf.2, List.length_append]; omega
    · rw [nodeM_no hf]; exact Nat.le_refl _

/-- The first plan, if there is one, in new memory of its own. -/
def FirstR (w : World) (lo hi : Nat) (A : Option Addr) (n : Nat) (fo : Option (List Int × List Int)) : Prop := ∀ p, fo = some p → p.1.length = n ∧ Own w lo hi A p.1

theorem FirstR.below {w w' : World} {lo hi B n : Nat} {A : Option Addr} {fo : Option (List Int × List Int)} (h : FirstR w lo hi A n fo) (hb : Below B w w') (hB : hi ≤ B) : FirstR w' lo hi A n fo :=
  fun p hp => ⟨(h p hp).1, (h p hp).2.below hb hB⟩
theorem FirstR.more {w : World} {lo hi lo' hi' n : Nat} {A : Option Addr} {fo : Option (List Int × List Int)} (h : FirstR w lo hi A n fo) (hl : lo' ≤ lo) (hh : hi ≤ hi') : FirstR w lo' hi' A n fo :=
  fun p hp => ⟨(h p hp).1, (h p hp).2.more hl hh⟩

/-- The first of these plans, and how many there are. -/
def RetP (L : List (List Int × List Int)) (w : World) (e : Ending) (w' : World) : Prop :=
  ∃ A n c, e = .returned (.tuple #[.slice A n c, .int .i64 (L.length : Int)]) ∧ FirstR w' w.heap.size w'.heap.size A n L.head? ∧ Below w.heap.size w w'

theorem drop_at {xs : List Int} {k : Nat} {x : Int} (h : xs[k]? = some x) : xs.drop k = x :: xs.drop (k + 1) := by
  have hk := (List.getElem?_eq_some_iff.1 h).1
  have e := (List.getElem?_eq_some_iff.1 h).2
  rw [List.drop_eq_getElem_cons hk, e]

theorem loads_set {room x l : Int} {ls : List Int} {k : Nat} (h : Loads room ls) (hl : ls[k]? = some l) (hx : 1 ≤ x ∧ x ≤ room) (hf : l + x ≤ room) : Loads room (addTo ls k x) :=
  h.add hx.1 hx.2 (fun _ => by rw [show ls.getD k 0 = l by simp [List.getD, hl]]; exact hf)

theorem head_append {α : Type} (L M : List α) : (L ++ M).head? = if L.length = 0 then M.head? else L.head? := by
  cases L <;> simp

set_option maxRecDepth 100000 in
set_option maxHeartbeats 8000000 in
theorem bxPlans_any (A : Option Addr) (n c : Nat) (xs : List Int) (room : Int) (lo hi : Nat) (hn : xs.length = n) (hn9 : n ≤ 9) (hx : ∀ x ∈ xs, 1 ≤ x ∧ x ≤ 100 ∧ x ≤ room) (hr : 1 ≤ room ∧ room ≤ 1000) :
    ∀ (d : Nat) (pl ls : List Int) (most p1 p2 c1 c2 : Nat) (B C : Option Addr) (l1 h1 l2 h2 : Nat) (w : World), p1 + d = n → pl.length = p1 → ls.length = p2 → p2 ≤ p1 → p2 ≤ most → most ≤ 100 → Loads room ls →
      Seg w lo hi A xs → hi ≤ w.heap.size → Seg w l1 h1 B pl → h1 ≤ w.heap.size → Seg w l2 h2 C ls → h2 ≤ w.heap.size →
      Calls Try.prog 126 #[.slice A n c, .int .i64 room, .slice B p1 c1, .slice C p2 c2, .int .i64 (most : Int)] w (RetP (plansM room most (xs.drop p1) pl ls) w) := by
  intro d
  induction d with
  | zero =>
    intro pl ls most p1 p2 c1 c2 B C l1 h1 l2 h2 w hd hpl hls hp hmo hm2 hlo hs hB hsp hBp hsl hBl
    have hpn : p1 = n := by omega
    subst hpn
    have HPL := Lib.hid hpl
    have HD := Lib.hid (show plansM room most (xs.drop p1) pl ls = [(pl, ls)] by rw [List.drop_of_length_le (by omega)]; rfl)
    clear hpl hls hlo hn hd
    go_enter Try.func126, Try.ntmps126
    go_wp2_with fail
    refine (l1Own_any B p1 c1 pl l1 h1 _ HPL.out (by omega) hsp hBp).mono ?_
    rintro e w1 ⟨A', c', rfl, hown, hb⟩
    have hoo := Lib.hid (ownsRow_own (ys := pl) (by rw [HPL.out]; exact hown)).2
    clear hown
    go_wp2
    go_ret2
    refine ⟨A', p1, c', by rw [HD.out]; rfl, ?_, hb⟩
    rw [HD.out]
    rintro q hq
    injection hq with hq
    subst hq
    exact ⟨HPL.out, hoo.out⟩
  | succ d ih =>
    intro pl ls most p1 p2 c1 c2 B C l1 h1 l2 h2 w hd hpl hls hp hmo hm2 hlo hs hB hsp hBp hsl hBl
    obtain ⟨i0, hi0, hz0, hz1, hz2⟩ := info_parts int_info
    have hlt1 : p1 < n := by omega
    obtain ⟨x, hxk⟩ : ∃ x, xs[p1]? = some x := ⟨_, List.getElem?_eq_getElem (by omega)⟩
    have hxx := hx x (List.mem_of_getElem? hxk)
    obtain ⟨r, hrr⟩ : ∃ r, xs.drop (p1 + 1) = r := ⟨_, rfl⟩
    have hrl : r.length = d := by rw [← hrr, List.length_drop]; omega
    have HPL := Lib.hid hpl
    have HLS := Lib.hid hls
    have HLO := Lib.hid hlo
    have HXK := Lib.hid hxk
    have HIH := Lib.hid ih
    have HRR := Lib.hid hrr
    have HD := Lib.hid (show plansM room most (xs.drop p1) pl ls = nodeM room most x r pl ls (p2 + 1) by rw [drop_at hxk, hrr, ← hls]; exact (nodeM_all room most x r pl ls).symm)
    have hcnt : (nodeM room most x r pl ls (p2 + 1)).length ≤ 1000000000 := by
      rw [← hls, nodeM_all]
      exact plansM_count (by omega) (by simp; omega)
    have HCN := Lib.hid hcnt
    have hne : ((p1 : Int) == (n : Int)) = false := by simp; omega
    clear hpl hls hlo hn hxk ih hrr hcnt
    go_enter Try.func126, Try.ntmps126
    go_wp2_with fail
    go_loopw [13, 14, 15] (fun fv cv iv wr => ∃ k F nf cf, k ≤ p2 + 1 ∧ iv = .int .i64 (k : Int) ∧ fv = .slice F nf cf ∧ cv = .int .i64 ((nodeM room most x r pl ls k).length : Int) ∧ Below w.heap.size w wr ∧ Hid (FirstR wr w.heap.size wr.heap.size F nf (nodeM room most x r pl ls k).head?)) (fun _ _ iv _ => p2 + 1 - (intOf iv).toNat)
    case atStart => exact ⟨0, none, 0, 0, by omega, rfl, rfl, rfl, Below.refl _ _, fun q hq => by cases hq⟩
    case round =>
      obtain ⟨k, F, nf, cf, hk, rfl, rfl, rfl, hb, hfr⟩ := hrel
      have hz := hb.size
      have hst : k ≤ p2 → ¬ k < most → nodeM room most x r pl ls (p2 + 1) = nodeM room most x r pl ls k := fun h1 h2 => by
        rw [show p2 + 1 = k + (p2 + 1 - k) by omega]
        exact nodeM_stop (by omega) _
      obtain ⟨L, hL⟩ : ∃ L, nodeM room most x r pl ls k = L := ⟨_, rfl⟩
      have hLc : L.length ≤ 1000000000 := by rw [← hL]; exact Nat.le_trans (nodeM_le room most x r pl ls hk) HCN.out
      have HST := Lib.hid hst
      have HL := Lib.hid hL
      rw [hL] at hfr ⊢
      clear hst hL
      by_cases hkp : k ≤ p2
      · by_cases hkm : k < most
        · have hsw := hs.below hb hB
          have hpw := hsp.below hb hBp
          have hlw := hsl.below hb hBl
          obtain ⟨bt, ot, x', rfl, _, hbt, hx', hct⟩ := hsw.at_ (k := p1) (by have := (List.getElem?_eq_some_iff.1 HXK.out).1; omega)
          obtain rfl : x = x' := by have := HXK.out.symm.trans hx'; injection this
          have HSW := Lib.hid hsw
          have HPW := Lib.hid hpw
          have HLW := Lib.hid hlw
          clear hx'
          by_cases hold : k < p2
          · obtain ⟨l, hl⟩ : ∃ l, ls[k]? = some l := ⟨_, List.getElem?_eq_getElem (by rw [HLS.out]; exact hold)⟩
            have hlb := HLO.out.at_ hl
            have HLK := Lib.hid hl
            have hgd : ls.getD k 0 = l := by simp [List.getD, hl]
            have HGD := Lib.hid hgd
            have hkn : ¬ ((k : Int) = (p2 : Int)) := by omega
            clear hl hgd
            clear hs hsp hsl
            go_wp2_with fail
            refine (l1Own_any C p2 c2 ls l2 h2 _ HLS.out (by omega) HLW.out (by omega)).mono ?_
            rintro e w1 ⟨A', c', rfl, hown1, hb1⟩
            have hzb1 := hb1.size
            obtain ⟨g, cap, hgv, hg0, hg1, hgc, hgf⟩ := ownsRow_head hown1 (by omega)
            obtain ⟨rfl, rfl⟩ : A' = some ⟨g, 0, none⟩ ∧ cap = c' := by injection hgv with a b c; exact ⟨a, c.symm⟩
            have hcl : w1.cell? ⟨g, k, none⟩ = some (.int .i64 l) := hgc k l HLK.out
            have hfz := hgf k
            have hct1 : w1.cell? ⟨bt, ot + p1, none⟩ = some (.int .i64 x) := (hb1.cell (by show bt < wr.heap.size; omega)).trans hct
            have hwr : IntKind.i64.wrap (l + x) = l + x := by rw [IntKind.wrap_i64]; omega
            have HOW1 := Lib.hid hown1
            have HB1 := Lib.hid hb1
            clear hgv hgc hgf hown1 hb1
            by_cases hfit : l + x ≤ room
            · have hgt : decide (room < l + x) = false := decide_eq_false (by omega)
              have hbS : Below wr.heap.size wr (w1.setCell ⟨g, k, none⟩ (.int .i64 (l + x))) := HB1.out.setCell hg0 _
              have hzS := hbS.size
              obtain ⟨WS, hWS⟩ : ∃ WS, w1.setCell ⟨g, k, none⟩ (.int .i64 (l + x)) = WS := ⟨_, rfl⟩
              have hownS : (w1.setCell ⟨g, k, none⟩ (.int .i64 (l + x))).ownsRow wr.heap.size 3 1 (.slice (some ⟨g, 0, none⟩) p2 cap) p2 ((ls.set k (l + x)).map (Value.int .i64)) := ownsRow_set HOW1.out k (l + x)
              have heq : ls.set k (l + x) = addTo ls k x := (addTo_old HLK.out x).symm
              rw [heq] at hownS
              clear heq
              rw [hWS] at hbS hzS hownS
              have hlsl : (addTo ls k x).length = p2 := by have := hownS.1; simpa using this
              have HSL := Lib.hid (ownsRow_own (ys := addTo ls k x) (by rw [hlsl]; exact hownS)).2.seg
              have HPW1 := Lib.hid (HPW.out.below hbS (by omega))
              have HSW1 := Lib.hid (HSW.out.below hbS (by omega))
              have HBS := Lib.hid hbS
              have HLSL := Lib.hid hlsl
              have HWS := Lib.hid hWS
              have hYES : nodeM room most x r pl ls (k + 1) = L ++ plansM room most r (pl ++ [(k : Int)]) (addTo ls k x) := by rw [nodeM_yes hkm (by rw [HGD.out]; exact hfit), HL.out]
              obtain ⟨M, hM⟩ : ∃ M, plansM room most r (pl ++ [(k : Int)]) (addTo ls k x) = M := ⟨_, rfl⟩
              rw [hM] at hYES
              have hLM : L.length + M.length ≤ 1000000000 := by
                rw [← List.length_append, ← hYES]
                exact Nat.le_trans (nodeM_le room most x r pl ls (by omega)) HCN.out
              have HYES := Lib.hid hYES
              have HMM := Lib.hid hM
              have HLO2 := Lib.hid (show Loads room (addTo ls k x) from HLO.out.add hxx.1 hxx.2.2 (fun _ => (by rw [HGD.out]; exact hfit)))
              clear hownS hlsl hYES hM hWS hbS
              go_wp2_with fail
              go_region
              go_wp2_with fail
              go_region
              go_wp2_with fail
              try rw [HWS.out]
              refine (l1Own_any B p1 c1 pl l1 h1 WS.drew.drew HPL.out (by omega) (show Seg WS.drew.drew l1 h1 B pl from HPW1.out) (show h1 ≤ WS.heap.size by omega)).mono ?_
              rintro e w2 ⟨A2, c2', rfl, hown2', hb2'⟩
              have hb2 : Below WS.heap.size WS w2 := by first | exact hb2' | exact undrew hb2' | exact undrew (undrew hb2')
              have hz2' := hb2.size
              have hown2 : w2.ownsRow WS.heap.size 3 1 (.slice A2 p1 c2') p1 (pl.map (Value.int .i64)) := hown2'
              have HOW2 := Lib.hid (hown2.alloc (.cells #[.int .i64 (k : Int)] 3))
              have HS1 := Lib.hid (seg_one w2 (k : Int) 3)
              have HLT2 := Lib.hid hown2.lt
              have HB2 := Lib.hid hb2
              clear hown2 hown2' hb2' hb2
              go_wp2_with (at_builtin; refine wpList_append_seg _ rfl _ _ 39 rfl WS.heap.size 3 i0 Try.underlying39 hi0 hz0 hz1 hz2 _ p1 _ rfl HOW2.out _ 1 1 [(k : Int)] _ _ rfl rfl HS1.out (by omega) (by simp; omega) ?_; intro v3 w3 hown3 hgr3; obtain ⟨A3, c3, rfl⟩ := ownsRow_form hown3; have HA3 : Hid (Own w3 WS.heap.size w3.heap.size A3 (pl ++ [(k : Int)])) := (ownsRow_own (ys := pl ++ [(k : Int)]) (by rw [List.length_append, HPL.out, List.map_append]; exact hown3)).2; have hb3 : Below WS.heap.size WS w3 := (HB2.out.alloc hz2' _).grown hgr3 (by simp; omega) (fun g' hg' => (HLT2.out g' hg').1); have hz3 := hb3.size; have HL3 := Lib.hid ((HSL.out).below hb3 (Nat.le_refl _)); have HX3 := Lib.hid (HSW1.out.below hb3 (by omega)); have HB3 := Lib.hid (HBS.out.trans (hb3.mono (by omega))); clear hown3 hgr3 hb3)
              refine (HIH.out (pl ++ [(k : Int)]) (addTo ls k x) most (p1 + 1) (p2) c3 cap A3 (some ⟨g, 0, none⟩) _ _ _ _ w3 (by omega) (by rw [List.length_append, HPL.out]; rfl) HLSL.out (by omega) (by omega) hm2 HLO2.out HX3.out (by omega) HA3.out.seg (Nat.le_refl _) HL3.out (by omega)).mono ?_
              rw [HRR.out, HMM.out]
              rintro e w4 ⟨F4, n4, c4, rfl, hf4, hb4⟩
              have HB4 := Lib.hid (HB3.out.trans (hb4.mono (by omega)))
              have HBB := Lib.hid (hb.trans (HB4.out.mono hz))
              have HF4 := Lib.hid (hf4.more (lo' := w.heap.size) (by omega) (Nat.le_refl _))
              have HFO := Lib.hid ((hfr.out.below HB4.out (Nat.le_refl _)).more (Nat.le_refl _) HB4.out.size)
              clear hf4 hb4
              by_cases m0 : M.length = 0
              · have m0' : ¬ ((M.length : Int) > 0) := by omega
                have hM0 : M = [] := List.eq_nil_of_length_eq_zero m0
                have HM0 := Lib.hid hM0
                clear hM0
                go_wp2
                go_roundw
                case rel => exact ⟨k + 1, F, nf, cf, by omega, by go_num, rfl, by rw [HYES.out, List.length_append, m0]; rfl, HBB.out, by rw [HYES.out, HM0.out, List.append_nil]; exact HFO.out⟩
                case measure => first | (simp [intOf]; done) | (simp [intOf]; omega)
              · have m0' : (M.length : Int) > 0 := by omega
                by_cases l0 : L.length = 0
                · have l0' : ((L.length : Int) = 0) := by omega
                  have hL0 : L = [] := List.eq_nil_of_length_eq_zero l0
                  have HL0 := Lib.hid hL0
                  clear hL0
                  go_wp2
                  go_roundw
                  case rel => exact ⟨k + 1, F4, n4, c4, by omega, by go_num, rfl, by rw [HYES.out, List.length_append, l0, Nat.zero_add], HBB.out, by rw [HYES.out, HL0.out, List.nil_append]; exact HF4.out⟩
                  case measure => first | (simp [intOf]; done) | (simp [intOf]; omega)
                · have l0' : ¬ ((L.length : Int) = 0) := by omega
                  go_wp2
                  go_roundw
                  case rel => exact ⟨k + 1, F, nf, cf, by omega, by go_num, rfl, by rw [HYES.out, List.length_append]; push_cast; rfl, HBB.out, by rw [HYES.out, head_append, if_neg l0]; exact HFO.out⟩
                  case measure => first | (simp [intOf]; done) | (simp [intOf]; omega)
            · have hgt : decide (room < l + x) = true := decide_eq_true (by omega)
              have HNO := Lib.hid (show nodeM room most x r pl ls (k + 1) = L by rw [nodeM_no (fun h => hfit (by rw [← HGD.out]; exact h.2)), HL.out])
              have HBB := Lib.hid (hb.trans (HB1.out.mono hz))
              have HFO := Lib.hid ((hfr.out.below HB1.out (Nat.le_refl _)).more (Nat.le_refl _) HB1.out.size)
              go_wp2_with fail
              go_region
              go_wp2
              go_roundw
              case rel => exact ⟨k + 1, F, nf, cf, by omega, by go_num, rfl, by rw [HNO.out], by first | exact HBB.out | exact HBB.out.drew, by rw [HNO.out]; exact HFO.out⟩
              case measure => simp [intOf]; omega
          · obtain rfl : k = p2 := by omega
            clear hs hsp hsl
            go_wp2_with fail
            refine (l1Own_any C k c2 ls l2 h2 _ HLS.out (by omega) HLW.out (by omega)).mono ?_
            rintro e w1 ⟨A', c', rfl, hown1, hb1⟩
            have hzb1 := hb1.size
            have HOW0 := Lib.hid (hown1.alloc (.cells #[.int .i64 0] 3))
            have HS0 := Lib.hid (seg_one w1 0 3)
            have HLT0 := Lib.hid hown1.lt
            have HB0 := Lib.hid hb1
            have hgd : ls.getD k 0 = 0 := by simp [List.getD, HLS.out]
            have HGD := Lib.hid hgd
            have hwr : IntKind.i64.wrap x = x := by rw [IntKind.wrap_i64]; omega
            have hgt : decide (room < x) = false := decide_eq_false (by omega)
            clear hown1 hb1 hgd
            go_wp2_with (at_builtin; refine wpList_append_seg _ rfl _ _ 39 rfl wr.heap.size 3 i0 Try.underlying39 hi0 hz0 hz1 hz2 _ k _ rfl HOW0.out _ 1 1 [(0 : Int)] _ _ rfl rfl HS0.out (by omega) (by simp; omega) ?_; intro v9 w9 hown9 hgr9; have hb9 : Below wr.heap.size wr w9 := (HB0.out.alloc hzb1 _).grown hgr9 (by simp; omega) (fun g' hg' => (HLT0.out g' hg').1); have hown8 : w9.ownsRow wr.heap.size 3 1 v9 (k + 1) ((ls ++ [(0 : Int)]).map (Value.int .i64)) := (by rw [List.map_append]; exact hown9); obtain ⟨g, cap, rfl, hg0, hg1, hgc, hgf⟩ := ownsRow_head hown8 (by omega); have hcl : w9.cell? ⟨g, k, none⟩ = some (.int .i64 0) := hgc k 0 (by rw [List.getElem?_append_right (by rw [HLS.out]; exact Nat.le_refl _), HLS.out, Nat.sub_self]; rfl); have hfz := hgf k; have hct1 : w9.cell? ⟨bt, ot + p1, none⟩ = some (.int .i64 x) := (hb9.cell (by show bt < wr.heap.size; omega)).trans hct; have HOW1 := Lib.hid hown8; have HB1 := Lib.hid hb9; have hz9 := hb9.size; clear hown9 hgr9 hb9 hown8 hgc hgf; skip)
            have hbS : Below wr.heap.size wr (w9.setCell ⟨g, k, none⟩ (.int .i64 (x))) := HB1.out.setCell hg0 _
            have hzS := hbS.size
            obtain ⟨WS, hWS⟩ : ∃ WS, w9.setCell ⟨g, k, none⟩ (.int .i64 (x)) = WS := ⟨_, rfl⟩
            have hownS : (w9.setCell ⟨g, k, none⟩ (.int .i64 (x))).ownsRow wr.heap.size 3 1 (.slice (some ⟨g, 0, none⟩) (k + 1) cap) (k + 1) (((ls ++ [(0 : Int)]).set k x).map (Value.int .i64)) := ownsRow_set HOW1.out k (x)
            have heq : (ls ++ [(0 : Int)]).set k x = addTo ls k x := (by have h := addTo_new ls x; rw [HLS.out] at h; exact h.symm)
            rw [heq] at hownS
            clear heq
            rw [hWS] at hbS hzS hownS
            have hlsl : (addTo ls k x).length = (k + 1) := by have := hownS.1; simpa using this
            have HSL := Lib.hid (ownsRow_own (ys := addTo ls k x) (by rw [hlsl]; exact hownS)).2.seg
            have HPW1 := Lib.hid (HPW.out.below hbS (by omega))
            have HSW1 := Lib.hid (HSW.out.below hbS (by omega))
            have HBS := Lib.hid hbS
            have HLSL := Lib.hid hlsl
            have HWS := Lib.hid hWS
            have hYES : nodeM room most x r pl ls (k + 1) = L ++ plansM room most r (pl ++ [(k : Int)]) (addTo ls k x) := by rw [nodeM_yes hkm (by rw [HGD.out, Int.zero_add]; exact hxx.2.2), HL.out]
            obtain ⟨M, hM⟩ : ∃ M, plansM room most r (pl ++ [(k : Int)]) (addTo ls k x) = M := ⟨_, rfl⟩
            rw [hM] at hYES
            have hLM : L.length + M.length ≤ 1000000000 := by
              rw [← List.length_append, ← hYES]
              exact Nat.le_trans (nodeM_le room most x r pl ls (by omega)) HCN.out
            have HYES := Lib.hid hYES
            have HMM := Lib.hid hM
            have HLO2 := Lib.hid (show Loads room (addTo ls k x) from HLO.out.add hxx.1 hxx.2.2 (fun _ => (by rw [HGD.out, Int.zero_add]; exact hxx.2.2)))
            clear hownS hlsl hYES hM hWS hbS
            go_wp2_with fail
            go_region
            go_wp2_with fail
            go_region
            go_wp2_with fail
            try rw [HWS.out]
            refine (l1Own_any B p1 c1 pl l1 h1 WS.drew.drew HPL.out (by omega) (show Seg WS.drew.drew l1 h1 B pl from HPW1.out) (show h1 ≤ WS.heap.size by omega)).mono ?_
            rintro e w2 ⟨A2, c2', rfl, hown2', hb2'⟩
            have hb2 : Below WS.heap.size WS w2 := by first | exact hb2' | exact undrew hb2' | exact undrew (undrew hb2')
            have hz2' := hb2.size
            have hown2 : w2.ownsRow WS.heap.size 3 1 (.slice A2 p1 c2') p1 (pl.map (Value.int .i64)) := hown2'
            have HOW2 := Lib.hid (hown2.alloc (.cells #[.int .i64 (k : Int)] 3))
            have HS1 := Lib.hid (seg_one w2 (k : Int) 3)
            have HLT2 := Lib.hid hown2.lt
            have HB2 := Lib.hid hb2
            clear hown2 hown2' hb2' hb2
            go_wp2_with (at_builtin; refine wpList_append_seg _ rfl _ _ 39 rfl WS.heap.size 3 i0 Try.underlying39 hi0 hz0 hz1 hz2 _ p1 _ rfl HOW2.out _ 1 1 [(k : Int)] _ _ rfl rfl HS1.out (by omega) (by simp; omega) ?_; intro v3 w3 hown3 hgr3; obtain ⟨A3, c3, rfl⟩ := ownsRow_form hown3; have HA3 : Hid (Own w3 WS.heap.size w3.heap.size A3 (pl ++ [(k : Int)])) := (ownsRow_own (ys := pl ++ [(k : Int)]) (by rw [List.length_append, HPL.out, List.map_append]; exact hown3)).2; have hb3 : Below WS.heap.size WS w3 := (HB2.out.alloc hz2' _).grown hgr3 (by simp; omega) (fun g' hg' => (HLT2.out g' hg').1); have hz3 := hb3.size; have HL3 := Lib.hid ((HSL.out).below hb3 (Nat.le_refl _)); have HX3 := Lib.hid (HSW1.out.below hb3 (by omega)); have HB3 := Lib.hid (HBS.out.trans (hb3.mono (by omega))); clear hown3 hgr3 hb3)
            refine (HIH.out (pl ++ [(k : Int)]) (addTo ls k x) most (p1 + 1) ((k + 1)) c3 cap A3 (some ⟨g, 0, none⟩) _ _ _ _ w3 (by omega) (by rw [List.length_append, HPL.out]; rfl) HLSL.out (by omega) (by omega) hm2 HLO2.out HX3.out (by omega) HA3.out.seg (Nat.le_refl _) HL3.out (by omega)).mono ?_
            rw [HRR.out, HMM.out]
            rintro e w4 ⟨F4, n4, c4, rfl, hf4, hb4⟩
            have HB4 := Lib.hid (HB3.out.trans (hb4.mono (by omega)))
            have HBB := Lib.hid (hb.trans (HB4.out.mono hz))
            have HF4 := Lib.hid (hf4.more (lo' := w.heap.size) (by omega) (Nat.le_refl _))
            have HFO := Lib.hid ((hfr.out.below HB4.out (Nat.le_refl _)).more (Nat.le_refl _) HB4.out.size)
            clear hf4 hb4
            by_cases m0 : M.length = 0
            · have m0' : ¬ ((M.length : Int) > 0) := by omega
              have hM0 : M = [] := List.eq_nil_of_length_eq_zero m0
              have HM0 := Lib.hid hM0
              clear hM0
              go_wp2
              go_roundw
              case rel => exact ⟨k + 1, F, nf, cf, by omega, by go_num, rfl, by rw [HYES.out, List.length_append, m0]; rfl, HBB.out, by rw [HYES.out, HM0.out, List.append_nil]; exact HFO.out⟩
              case measure => first | (simp [intOf]; done) | (simp [intOf]; omega)
            · have m0' : (M.length : Int) > 0 := by omega
              by_cases l0 : L.length = 0
              · have l0' : ((L.length : Int) = 0) := by omega
                have hL0 : L = [] := List.eq_nil_of_length_eq_zero l0
                have HL0 := Lib.hid hL0
                clear hL0
                go_wp2
                go_roundw
                case rel => exact ⟨k + 1, F4, n4, c4, by omega, by go_num, rfl, by rw [HYES.out, List.length_append, l0, Nat.zero_add], HBB.out, by rw [HYES.out, HL0.out, List.nil_append]; exact HF4.out⟩
                case measure => first | (simp [intOf]; done) | (simp [intOf]; omega)
              · have l0' : ¬ ((L.length : Int) = 0) := by omega
                go_wp2
                go_roundw
                case rel => exact ⟨k + 1, F, nf, cf, by omega, by go_num, rfl, by rw [HYES.out, List.length_append]; push_cast; rfl, HBB.out, by rw [HYES.out, head_append, if_neg l0]; exact HFO.out⟩
                case measure => first | (simp [intOf]; done) | (simp [intOf]; omega)
        · have HEND := Lib.hid (HD.out.trans ((HST.out hkp hkm).trans HL.out))
          clear hs hsp hsl
          go_wp2
          go_ret2
          exact ⟨F, nf, cf, by rw [HEND.out]; rfl, by rw [HEND.out]; exact hfr.out, hb⟩
      · obtain rfl : k = p2 + 1 := by omega
        have HEND := Lib.hid (HD.out.trans HL.out)
        clear hs hsp hsl
        go_wp2
        go_ret2
        exact ⟨F, nf, cf, by rw [HEND.out]; rfl, by rw [HEND.out]; exact hfr.out, hb⟩
end Go.Proofs.Ytoheoojpmndhoaa

/-
  LeftOver of both programs.
  Conditions: lists of at most 1048576 numbers.
-/
import Derived.Test.YtjpejhpilfjheabLoM
import Derived.Test.YtjpejhpilfjheabCounts
import Derived.Test.YtjpejhpilfjheabCloneI
import Derived.Test.YtjpejhpilfjheabL1Own
import Derived.Test.YtjpejhpilfjheabSomeN
namespace Go.Proofs.Ytjpejhpilfjheab
set_option linter.unusedVariables false
set_option linter.unusedSimpArgs false
open Go.RowKit

set_option maxRecDepth 100000 in
set_option maxHeartbeats 4000000 in
theorem impl_LeftOver (A P : Option Addr) (n c m d : Nat) (cs : List Int) (pss : List (List Int)) (lo hi hi2 : Nat) (w : World) (hn : cs.length = n) (hlen : n ≤ 1048576) (hm : pss.length = m) (hlen2 : m ≤ 1048576) (hs : Seg w lo hi A cs) (hB : hi ≤ w.heap.size)
    (hp : RowsIn w hi2 P pss) (hB2 : hi2 ≤ w.heap.size) (hpl : ∀ p ∈ pss, p.length ≤ 1048576) (q : Bool) (hq : leftB cs pss = q) :
    Calls Try.prog 13 #[.slice A n c, .slice P m d] w (RetL q (someN q (leftK cs pss m)) w) := by
  have HN := Lib.hid hn
  have HM := Lib.hid hm
  have HS := Lib.hid hs
  have HP := Lib.hid hp
  have HQ := Lib.hid hq
  have HPP := Lib.hid hpl
  clear hn hs hp hpl
  cases hc : someB 4 6 cs
  · obtain rfl : q = false := by rw [← hq, leftB, hc]; rfl
    clear hq hm
    go_enter Try.func13, Try.ntmps13
    go_wp2_with fail
    refine (areCounts_any A n c cs lo hi w HN.out hlen HS.out false hc).mono ?_
    rintro e w0 ⟨rfl, rfl⟩
    go_wp2
    go_ret2
    exact ⟨none, 0, 0, rfl, rfl, Own.nil_, Below.refl _ _⟩
  · have hn4 : 1 ≤ n ∧ n ≤ 4 := by have h := (someB_true.1 hc).1; rw [HN.out] at h; omega
    by_cases hm20 : m ≤ 20
    · have hdm : decide ((20 : Int) < (m : Int)) = false := decide_eq_false (by omega)
      clear hq hm
      go_enter Try.func13, Try.ntmps13
      go_wp2_with fail
      refine (areCounts_any A n c cs lo hi w HN.out hlen HS.out true hc).mono ?_
      rintro e w0 ⟨rfl, rfl⟩
      go_wp2_with fail
      obtain ⟨_, _, _, hA, _, _, _, _⟩ := HS.out.at_ (k := 0) (by rw [HN.out]; omega)
      subst hA
      refine (cloneI_any _ n c cs lo hi w HN.out hlen HS.out hB).mono ?_
      rintro e w1 ⟨v, rfl, hown, hb1⟩
      obtain ⟨g, c1, hv, hg0, hg1, _, _⟩ := ownsRow_head (ys := cs) hown (by omega)
      subst hv
      have HO1 := Lib.hid hown
      have HB1 := Lib.hid hb1
      clear hown hb1 hdm
      go_wp2
      go_loopw [8, 9, 10, 23] (fun _ _ _ i wr => ∃ k : Nat, k ≤ m ∧ i = .int .i64 (k : Int) ∧ (∀ j p, j < k → pss[j]? = some p → okP cs p = true) ∧ Below w.heap.size w wr ∧ wr.ownsRow w.heap.size 3 1 (.slice (some ⟨g, 0, none⟩) n c1) n ((leftK cs pss k).map (Value.int .i64))) (fun _ _ _ i _ => m - (intOf i).toNat)
      case atStart => exact ⟨0, Nat.zero_le _, rfl, fun j p hj _ => by omega, HB1.out, HO1.out⟩
      case round =>
        obtain ⟨k, hk, rfl, hok, hb, hown⟩ := hrel
        have hbd := leftK_bd hc k (by rw [HM.out]; exact hk) hok
        by_cases hlt : k < m
        · obtain ⟨p, hpk⟩ : ∃ p, pss[k]? = some p := ⟨_, List.getElem?_eq_getElem (by rw [HM.out]; exact hlt)⟩
          obtain ⟨b, off, D, dc, rfl, hbh, hcell, hseg⟩ := (HP.out.below hb hB2).at_ hpk
          have hlI : (k : Int) < (m : Int) := by omega
          obtain ⟨pl, hpl⟩ : ∃ pl, p.length = pl := ⟨_, rfl⟩
          have hplen : pl ≤ 1048576 := by rw [← hpl]; exact HPP.out p (List.mem_of_getElem? hpk)
          rw [hpl] at hcell
          have HPL := Lib.hid hpl
          have HPK := Lib.hid hpk
          clear hpl
          cases hnn' : okP cs p
          · have hnn : ¬ okP cs p = true := by rw [hnn']; simp
            obtain rfl : q = false := by rw [← HQ.out]; exact leftB_bad hpk hnn'
            clear hpk hok hbd
            cases hs4 : someB 4 6 p
            · go_wp2_with fail
              refine (areCounts_any D pl dc p 0 hi2 _ HPL.out hplen hseg false hs4).mono ?_
              rintro e w3 ⟨rfl, rfl⟩
              go_wp2
              go_ret2
              exact ⟨none, 0, 0, rfl, rfl, Own.nil_, hb⟩
            · have hne : ((pl : Int) == (n : Int)) = false := by
                rw [beq_eq_false_iff_ne]; intro e; apply hnn; rw [okP, HPL.out, HN.out, decide_eq_true (show pl = n by omega), (someB_true.1 hs4).2]; rfl
              go_wp2_with fail
              refine (areCounts_any D pl dc p 0 hi2 _ HPL.out hplen hseg true hs4).mono ?_
              rintro e w3 ⟨rfl, rfl⟩
              go_wp2
              go_ret2
              exact ⟨none, 0, 0, rfl, rfl, Own.nil_, hb⟩
          · have hpm := okP_mem hnn'
            obtain rfl : pl = n := by rw [← HPL.out, hpm.1, HN.out]
            have HAL := Lib.hid (show allB p 0 6 = true by have h := hnn'; simp only [okP, Bool.and_eq_true] at h; exact h.2)
            have HSB := Lib.hid (show someB 4 6 p = true by rw [someB, HPL.out, HAL.out, Bool.and_true, inB_true]; omega)
            have HPM := Lib.hid hpm.2
            have hok' : ∀ j p', j < k + 1 → pss[j]? = some p' → okP cs p' = true := fun j p' hj hp' => by
              by_cases e : j = k
              · subst e; rw [hpk] at hp'; injection hp' with hp'; rw [← hp']; exact hnn'
              · exact hok j p' (by omega) hp'
            have HOK := Lib.hid hok'
            obtain ⟨acc, hacc⟩ : ∃ acc, leftK cs pss k = acc := ⟨_, rfl⟩
            rw [hacc] at hown hbd
            have hal : acc.length = pl := by rw [← hacc, leftK_len, HN.out]
            have HACC := Lib.hid hacc
            have HALN := Lib.hid hal
            have HBD := Lib.hid hbd
            have HOW := Lib.hid hown
            have HB := Lib.hid hb
            have HSG := Lib.hid hseg
            have HSGW := Lib.hid (show ∀ W, Below w.heap.size w W → Seg W 0 hi2 D p from fun W hW => by
              have h0 := (HP.out.below hW hB2).at_ hpk
              obtain ⟨b9, o9, D9, c9, e9, _, h9, s9⟩ := h0
              obtain ⟨rfl, rfl⟩ : b = b9 ∧ off = o9 := by injection e9 with e9; injection e9 with h1 h2; exact ⟨h1, h2⟩
              have hw0 := (HP.out).at_ hpk
              obtain ⟨b8, o8, D8, c8, e8, hb8, h8, s8⟩ := hw0
              obtain ⟨rfl, rfl⟩ : b = b8 ∧ off = o8 := by injection e8 with e8; injection e8 with h1 h2; exact ⟨h1, h2⟩
              have k1 := (hb.cell (p := ⟨b, off + k, none⟩) (by show b < w.heap.size; omega)).trans h8
              rw [hcell] at k1
              injection k1 with k1
              injection k1 with k1 _ _
              rw [k1]
              exact s8.below hW hB2)
            clear hpm hnn' hok hok' hpk hacc hal hbd hown
            go_wp2_with fail
            refine (areCounts_any D pl dc p 0 hi2 _ HPL.out (by omega) HSG.out true HSB.out).mono ?_
            rintro e w3 ⟨rfl, rfl⟩
            go_wp2
            obtain ⟨wv, rfl⟩ : ∃ wv, wv = wr := ⟨_, rfl⟩
            clear hcell hseg hb
            go_loopw [9, 10, 39] (fun _ _ i wr => ∃ t : Nat, t ≤ pl ∧ i = .int .i64 (t : Int) ∧ Below wv.heap.size wv wv ∧ Below w.heap.size w wr ∧ wr.ownsRow w.heap.size 3 1 (.slice (some ⟨g, 0, none⟩) pl c1) pl ((subK acc p t).map (Value.int .i64))) (fun _ _ i _ => pl - (intOf i).toNat)
            case atStart => exact ⟨0, Nat.zero_le _, rfl, Below.refl _ _, HB.out, HOW.out⟩
            case round =>
              obtain ⟨t, ht, rfl, _, hb2, hown2⟩ := hrel
              by_cases htl : t < pl
              · obtain ⟨x, hx⟩ : ∃ x, acc[t]? = some x := ⟨_, List.getElem?_eq_getElem (by rw [HALN.out]; exact htl)⟩
                obtain ⟨_, _, e0, _, _, hcs, hfz⟩ := ownsRow_head (ys := subK acc p t) hown2 (by omega)
                injection e0 with e0 _ _
                injection e0 with e0
                injection e0 with e0 _
                subst e0
                have hcx := hcs t x (by rw [subK_at acc p t t (Nat.le_refl _)]; exact hx)
                have hfx := hfz t
                obtain ⟨b3, o3, y, rfl, _, _, hy, hcy⟩ := (HSGW.out _ hb2).at_ (k := t) (by rw [HPL.out]; exact htl)
                have hyb := HPM.out y (List.mem_of_getElem? hy)
                have hxb := HBD.out x (List.mem_of_getElem? hx)
                have hw1 : IntKind.i64.wrap (x - y) = x - y := by rw [IntKind.wrap_i64]; omega
                have htI : (t : Int) < (pl : Int) := by omega
                have HSET := Lib.hid (show subK acc p (t + 1) = (subK acc p t).set t (x - y) by simp [subK, List.getD, hx, hy])
                have HO2 := Lib.hid hown2
                have HB2x := Lib.hid hb2
                clear hx hy hyb hxb hcs hfz hown2
                go_wp2
                go_roundw
                case rel => exact ⟨t + 1, by omega, by go_num, Below.refl _ _, HB2x.out.setCell (p := ⟨g, t, none⟩) hg0 _, by rw [HSET.out]; exact ownsRow_set HO2.out t _⟩
                case measure => simp [intOf]; omega
              · obtain rfl : t = pl := by omega
                have HO2 := Lib.hid hown2
                have HB2x := Lib.hid hb2
                clear hown2 hb2
                go_wp2
                go_roundw
                case rel => exact ⟨k + 1, by omega, by go_num, HOK.out, HB2x.out, by rw [leftK_next cs HPK.out, HACC.out, subL, HPL.out]; exact HO2.out⟩
                case measure => simp [intOf]; omega
        · obtain rfl : k = m := by omega
          have hend := leftB_end (pss := pss) hc (by rw [HM.out]; exact hm20) (fun j p hj hp => hok j p (by rw [HM.out] at hj; exact hj) hp)
          rw [HM.out] at hend
          have hoo := (ownsRow_own (ys := leftK cs pss k) (by rw [leftK_len, HN.out]; exact hown)).2
          have hsg := hoo.seg
          have HOE := Lib.hid hoo
          clear hoo hok hown
          obtain ⟨u0, hu0⟩ : ∃ u0, (leftK cs pss k)[0]? = some u0 := ⟨_, List.getElem?_eq_getElem (by rw [leftK_len, HN.out]; omega)⟩
          have hmx : decide ((leftK cs pss k).foldl max u0 ≤ 6) = true := by
            have h := allB_fold (l := -120) (h := 6) hu0
            rw [allB_of (fun j u hu => inB_true.2 (by have := hbd u (List.mem_of_getElem? hu); omega))] at h
            cases hd : decide ((leftK cs pss k).foldl max u0 ≤ 6)
            · rw [hd, Bool.and_false] at h; cases h
            · rfl
          have hqq : decide (0 ≤ (leftK cs pss k).foldl min u0) = q := by rw [← HQ.out, hend, allB_fold hu0, hmx, Bool.and_true]
          go_wp2_with fail
          refine (slicesMin_any (some ⟨g, 0, none⟩) n c1 (leftK cs pss k) u0 _ _ _ (by rw [leftK_len, HN.out]) (by omega) hsg (by omega) hu0).mono ?_
          obtain ⟨mn, hmn⟩ : ∃ mn, (leftK cs pss k).foldl min u0 = mn := ⟨_, rfl⟩
          rw [hmn] at hqq ⊢
          rintro e w3 ⟨rfl, rfl⟩
          have HHQ := Lib.hid hqq
          clear hmn hmx hu0 hend hqq hsg
          cases q
          · have hd : decide (mn < 0) = true := decide_eq_true (by have := of_decide_eq_false HHQ.out; omega)
            go_wp2
            go_ret2
            exact ⟨none, 0, 0, rfl, rfl, Own.nil_, hb⟩
          · have hd : decide (mn < 0) = false := decide_eq_false (by have := of_decide_eq_true HHQ.out; omega)
            go_wp2
            go_ret2
            exact ⟨some ⟨g, 0, none⟩, n, c1, rfl, by rw [someN, if_pos rfl, leftK_len, HN.out], HOE.out, hb⟩
    · have hdm : decide ((20 : Int) < (m : Int)) = true := decide_eq_true (by omega)
      obtain rfl : q = false := by rw [← hq, leftB, hm, decide_eq_false hm20, Bool.and_false]; rfl
      clear hq hm
      go_enter Try.func13, Try.ntmps13
      go_wp2_with fail
      refine (areCounts_any A n c cs lo hi w HN.out hlen HS.out true hc).mono ?_
      rintro e w0 ⟨rfl, rfl⟩
      go_wp2
      go_ret2
      exact ⟨none, 0, 0, rfl, rfl, Own.nil_, Below.refl _ _⟩

set_option maxRecDepth 100000 in
set_option maxHeartbeats 4000000 in
theorem spec_LeftOver (A P : Option Addr) (n c m d : Nat) (cs : List Int) (pss : List (List Int)) (lo hi hi2 : Nat) (w : World) (hn : cs.length = n) (hlen : n ≤ 1048576) (hm : pss.length = m) (hlen2 : m ≤ 1048576) (hs : Seg w lo hi A cs) (hB : hi ≤ w.heap.size)
    (hp : RowsIn w hi2 P pss) (hB2 : hi2 ≤ w.heap.size) (hpl : ∀ p ∈ pss, p.length ≤ 1048576) (q : Bool) (hq : leftB cs pss = q) :
    Calls Try.prog 10 #[.slice A n c, .slice P m d] w (RetL q (someN q (leftK cs pss m)) w) := by
  have HN := Lib.hid hn
  have HM := Lib.hid hm
  have HS := Lib.hid hs
  have HP := Lib.hid hp
  have HQ := Lib.hid hq
  have HPP := Lib.hid hpl
  clear hn hs hp hpl
  cases hc : someB 4 6 cs
  · obtain rfl : q = false := by rw [← hq, leftB, hc]; rfl
    clear hq hm
    go_enter Try.func10, Try.ntmps10
    go_wp2_with fail
    refine (rdCounts_any A n c cs lo hi w HN.out hlen HS.out false hc).mono ?_
    rintro e w0 ⟨rfl, rfl⟩
    go_wp2
    go_ret2
    exact ⟨none, 0, 0, rfl, rfl, Own.nil_, Below.refl _ _⟩
  · have hn4 : 1 ≤ n ∧ n ≤ 4 := by have h := (someB_true.1 hc).1; rw [HN.out] at h; omega
    by_cases hm20 : m ≤ 20
    · have hdm : decide ((20 : Int) < (m : Int)) = false := decide_eq_false (by omega)
      clear hq hm
      go_enter Try.func10, Try.ntmps10
      go_wp2_with fail
      refine (rdCounts_any A n c cs lo hi w HN.out hlen HS.out true hc).mono ?_
      rintro e w0 ⟨rfl, rfl⟩
      go_wp2_with fail
      refine (l1Own_any A n c cs lo hi w HN.out hlen HS.out hB).mono ?_
      rintro e w1 ⟨A1, c0, rfl, hown, hb1⟩
      obtain ⟨g, c1, hv, hg0, hg1, _, _⟩ := ownsRow_head (ys := cs) hown (by omega)
      obtain ⟨rfl, rfl⟩ : A1 = some ⟨g, 0, none⟩ ∧ c1 = c0 := by injection hv with a _ b; exact ⟨a, b.symm⟩
      have HO1 := Lib.hid hown
      have HB1 := Lib.hid hb1
      clear hown hb1 hdm
      go_wp2
      go_loopw [8, 9, 10, 23] (fun _ _ _ i wr => ∃ k : Nat, k ≤ m ∧ i = .int .i64 (k : Int) ∧ (∀ j p, j < k → pss[j]? = some p → okP cs p = true) ∧ Below w.heap.size w wr ∧ wr.ownsRow w.heap.size 3 1 (.slice (some ⟨g, 0, none⟩) n c1) n ((leftK cs pss k).map (Value.int .i64))) (fun _ _ _ i _ => m - (intOf i).toNat)
      case atStart => exact ⟨0, Nat.zero_le _, rfl, fun j p hj _ => by omega, HB1.out, HO1.out⟩
      case round =>
        obtain ⟨k, hk, rfl, hok, hb, hown⟩ := hrel
        have hbd := leftK_bd hc k (by rw [HM.out]; exact hk) hok
        by_cases hlt : k < m
        · obtain ⟨p, hpk⟩ : ∃ p, pss[k]? = some p := ⟨_, List.getElem?_eq_getElem (by rw [HM.out]; exact hlt)⟩
          obtain ⟨b, off, D, dc, rfl, hbh, hcell, hseg⟩ := (HP.out.below hb hB2).at_ hpk
          have hlI : (k : Int) < (m : Int) := by omega
          obtain ⟨pl, hpl⟩ : ∃ pl, p.length = pl := ⟨_, rfl⟩
          have hplen : pl ≤ 1048576 := by rw [← hpl]; exact HPP.out p (List.mem_of_getElem? hpk)
          rw [hpl] at hcell
          have HPL := Lib.hid hpl
          have HPK := Lib.hid hpk
          clear hpl
          cases hnn' : okP cs p
          · have hnn : ¬ okP cs p = true := by rw [hnn']; simp
            obtain rfl : q = false := by rw [← HQ.out]; exact leftB_bad hpk hnn'
            clear hpk hok hbd
            by_cases hpn : pl = n
            · subst hpn
              have hal : allB p 0 6 = false := by
                cases h : allB p 0 6
                · rfl
                · exact absurd (by rw [okP, HPL.out, HN.out, decide_eq_true rfl, h]; rfl) hnn
              go_wp2_with fail
              refine (l1All_any D pl dc p 0 6 0 hi2 _ HPL.out hplen hseg false hal).mono ?_
              rintro e w3 ⟨rfl, rfl⟩
              go_wp2
              go_ret2
              exact ⟨none, 0, 0, rfl, rfl, Own.nil_, hb⟩
            · have hne : ((pl : Int) == (n : Int)) = false := by rw [beq_eq_false_iff_ne]; omega
              go_wp2
              go_ret2
              exact ⟨none, 0, 0, rfl, rfl, Own.nil_, hb⟩
          · have hpm := okP_mem hnn'
            obtain rfl : pl = n := by rw [← HPL.out, hpm.1, HN.out]
            have HAL := Lib.hid (show allB p 0 6 = true by have h := hnn'; simp only [okP, Bool.and_eq_true] at h; exact h.2)
            have HSB := Lib.hid (show someB 4 6 p = true by rw [someB, HPL.out, HAL.out, Bool.and_true, inB_true]; omega)
            have HPM := Lib.hid hpm.2
            have hok' : ∀ j p', j < k + 1 → pss[j]? = some p' → okP cs p' = true := fun j p' hj hp' => by
              by_cases e : j = k
              · subst e; rw [hpk] at hp'; injection hp' with hp'; rw [← hp']; exact hnn'
              · exact hok j p' (by omega) hp'
            have HOK := Lib.hid hok'
            obtain ⟨acc, hacc⟩ : ∃ acc, leftK cs pss k = acc := ⟨_, rfl⟩
            rw [hacc] at hown hbd
            have hal : acc.length = pl := by rw [← hacc, leftK_len, HN.out]
            have HACC := Lib.hid hacc
            have HALN := Lib.hid hal
            have HBD := Lib.hid hbd
            have HOW := Lib.hid hown
            have HB := Lib.hid hb
            have HSG := Lib.hid hseg
            have HSGW := Lib.hid (show ∀ W, Below w.heap.size w W → Seg W 0 hi2 D p from fun W hW => by
              have h0 := (HP.out.below hW hB2).at_ hpk
              obtain ⟨b9, o9, D9, c9, e9, _, h9, s9⟩ := h0
              obtain ⟨rfl, rfl⟩ : b = b9 ∧ off = o9 := by injection e9 with e9; injection e9 with h1 h2; exact ⟨h1, h2⟩
              have hw0 := (HP.out).at_ hpk
              obtain ⟨b8, o8, D8, c8, e8, hb8, h8, s8⟩ := hw0
              obtain ⟨rfl, rfl⟩ : b = b8 ∧ off = o8 := by injection e8 with e8; injection e8 with h1 h2; exact ⟨h1, h2⟩
              have k1 := (hb.cell (p := ⟨b, off + k, none⟩) (by show b < w.heap.size; omega)).trans h8
              rw [hcell] at k1
              injection k1 with k1
              injection k1 with k1 _ _
              rw [k1]
              exact s8.below hW hB2)
            clear hpm hnn' hok hok' hpk hacc hal hbd hown
            go_wp2_with fail
            refine (l1All_any D pl dc p 0 6 0 hi2 _ HPL.out (by omega) HSG.out true HAL.out).mono ?_
            rintro e w3 ⟨rfl, rfl⟩
            go_wp2
            obtain ⟨wv, rfl⟩ : ∃ wv, wv = wr := ⟨_, rfl⟩
            clear hcell hseg hb
            go_loopw [9, 10, 39] (fun _ _ i wr => ∃ t : Nat, t ≤ pl ∧ i = .int .i64 (t : Int) ∧ Below wv.heap.size wv wv ∧ Below w.heap.size w wr ∧ wr.ownsRow w.heap.size 3 1 (.slice (some ⟨g, 0, none⟩) pl c1) pl ((subK acc p t).map (Value.int .i64))) (fun _ _ i _ => pl - (intOf i).toNat)
            case atStart => exact ⟨0, Nat.zero_le _, rfl, Below.refl _ _, HB.out, HOW.out⟩
            case round =>
              obtain ⟨t, ht, rfl, _, hb2, hown2⟩ := hrel
              by_cases htl : t < pl
              · obtain ⟨x, hx⟩ : ∃ x, acc[t]? = some x := ⟨_, List.getElem?_eq_getElem (by rw [HALN.out]; exact htl)⟩
                obtain ⟨_, _, e0, _, _, hcs, hfz⟩ := ownsRow_head (ys := subK acc p t) hown2 (by omega)
                injection e0 with e0 _ _
                injection e0 with e0
                injection e0 with e0 _
                subst e0
                have hcx := hcs t x (by rw [subK_at acc p t t (Nat.le_refl _)]; exact hx)
                have hfx := hfz t
                obtain ⟨b3, o3, y, rfl, _, _, hy, hcy⟩ := (HSGW.out _ hb2).at_ (k := t) (by rw [HPL.out]; exact htl)
                have hyb := HPM.out y (List.mem_of_getElem? hy)
                have hxb := HBD.out x (List.mem_of_getElem? hx)
                have hw1 : IntKind.i64.wrap (x - y) = x - y := by rw [IntKind.wrap_i64]; omega
                have htI : (t : Int) < (pl : Int) := by omega
                have HSET := Lib.hid (show subK acc p (t + 1) = (subK acc p t).set t (x - y) by simp [subK, List.getD, hx, hy])
                have HO2 := Lib.hid hown2
                have HB2x := Lib.hid hb2
                clear hx hy hyb hxb hcs hfz hown2
                go_wp2
                go_roundw
                case rel => exact ⟨t + 1, by omega, by go_num, Below.refl _ _, HB2x.out.setCell (p := ⟨g, t, none⟩) hg0 _, by rw [HSET.out]; exact ownsRow_set HO2.out t _⟩
                case measure => simp [intOf]; omega
              · obtain rfl : t = pl := by omega
                have HO2 := Lib.hid hown2
                have HB2x := Lib.hid hb2
                clear hown2 hb2
                go_wp2
                go_roundw
                case rel => exact ⟨k + 1, by omega, by go_num, HOK.out, HB2x.out, by rw [leftK_next cs HPK.out, HACC.out, subL, HPL.out]; exact HO2.out⟩
                case measure => simp [intOf]; omega
        · obtain rfl : k = m := by omega
          have hend := leftB_end (pss := pss) hc (by rw [HM.out]; exact hm20) (fun j p hj hp => hok j p (by rw [HM.out] at hj; exact hj) hp)
          rw [HM.out] at hend
          have hoo := (ownsRow_own (ys := leftK cs pss k) (by rw [leftK_len, HN.out]; exact hown)).2
          have hsg := hoo.seg
          have HOE := Lib.hid hoo
          clear hoo hok hown
          have hqq : allB (leftK cs pss k) 0 6 = q := by rw [← HQ.out, hend]
          go_wp2_with fail
          refine (l1All_any (some ⟨g, 0, none⟩) n c1 (leftK cs pss k) 0 6 _ _ _ (by rw [leftK_len, HN.out]) (by omega) hsg q hqq).mono ?_
          rintro e w3 ⟨rfl, rfl⟩
          clear hend hqq hsg
          cases q
          · go_wp2
            go_ret2
            exact ⟨none, 0, 0, rfl, rfl, Own.nil_, hb⟩
          · go_wp2
            go_ret2
            exact ⟨some ⟨g, 0, none⟩, n, c1, rfl, by rw [someN, if_pos rfl, leftK_len, HN.out], HOE.out, hb⟩
    · have hdm : decide ((20 : Int) < (m : Int)) = true := decide_eq_true (by omega)
      obtain rfl : q = false := by rw [← hq, leftB, hm, decide_eq_false hm20, Bool.and_false]; rfl
      clear hq hm
      go_enter Try.func10, Try.ntmps10
      go_wp2_with fail
      refine (rdCounts_any A n c cs lo hi w HN.out hlen HS.out true hc).mono ?_
      rintro e w0 ⟨rfl, rfl⟩
      go_wp2
      go_ret2
      exact ⟨none, 0, 0, rfl, rfl, Own.nil_, Below.refl _ _⟩
end Go.Proofs.Ytjpejhpilfjheab

/-
  Both programs' worst and best orders.
  Conditions: none.
-/
import Derived.Test.YtgcljhgpihpfgacOrdX
import Derived.Test.YtgcljhgpihpfgacOrdS
import Derived.Test.YtgcljhgpihpfgacRule
namespace Go.Proofs.Ytgcljhgpihpfgac
set_option linter.unusedVariables false
open Go.RowKit Go.Sort

theorem ordF_perm : ∀ (f : Nat) {L : List Int}, L.length = f → ∀ l ∈ ordF f L, l.Perm L
  | 0, L, h, l, hl => by
    have e : l = [] := by simpa [ordF] using hl
    rw [e, List.length_eq_zero_iff.1 h]
  | f + 1, L, h, l, hl => by
    rw [ordF, List.mem_flatMap] at hl
    obtain ⟨v, hv, hl⟩ := hl
    rw [List.mem_map] at hl
    obtain ⟨l', hl', rfl⟩ := hl
    have hvL : v ∈ L := (vals7_mem L v).1 hv
    have hp := ordF_perm f (L := L.erase v) (by rw [List.length_erase_of_mem hvL, h]; rfl) l' hl'
    exact (hp.cons v).trans (List.perm_cons_erase hvL).symm

/-- The greatest box's number and the number of boxes. -/
def InvM (s : List Int × List Int) : Prop := (s.2 = [] ∧ s.1 = []) ∨ (s.2 ≠ [] ∧ (s.1.length : Int) = 1 + mostOf s.2)
theorem inv_run (rule room : Int) : ∀ (xs : List Int) (s : List Int × List Int), InvM s → InvM (run rule room xs s)
  | [], s, h => h
  | x :: xs, s, h => by
    rw [run]
    refine inv_run rule room xs _ (.inr ⟨by simp, ?_⟩)
    have hp := pick_le rule room x s.1
    have hm : mostOf (s.2 ++ [((pick rule room x s.1 : Nat) : Int)]) = max (mostOf s.2) ((pick rule room x s.1 : Nat) : Int) := by simp [mostOf, List.foldl_append]
    show ((addTo s.1 (pick rule room x s.1) x).length : Int) = 1 + mostOf (s.2 ++ [((pick rule room x s.1 : Nat) : Int)])
    rw [hm, addTo_length]
    have h0 : 0 ≤ mostOf s.2 := foldl_max_ge s.2 0
    rcases h with ⟨h1, h2⟩ | ⟨h1, h2⟩
    · rw [h2] at hp ⊢
      rw [h1]
      have hp0 : pick rule room x [] = 0 := by simpa using hp
      rw [hp0]
      simp [mostOf]
    · by_cases e : pick rule room x s.1 = s.1.length
      · rw [if_pos e]; omega
      · rw [if_neg e]; omega
theorem most_run {room : Int} {xs : List Int} (h : 1 ≤ xs.length) : 1 + mostOf (run 102 room xs ([], [])).2 = boxN room xs := by
  rcases inv_run 102 room xs ([], []) (.inl ⟨rfl, rfl⟩) with ⟨h1, _⟩ | ⟨_, h2⟩
  · have hl := run_len 102 room xs ([], [])
    rw [h1] at hl
    simp at hl; omega
  · exact h2.symm

/-- The best order so far lies in new memory. -/
def BestV (w : World) (base : Nat) (v : Value) (ys : List Int) : Prop :=
  (v = .slice none 0 0 ∧ ys = []) ∨ ∃ B d, v = .slice B ys.length d ∧ ys.isEmpty = false ∧ Own w base w.heap.size B ys
theorem BestV.below {w w' : World} {base : Nat} {v : Value} {ys : List Int} (h : BestV w base v ys) (hb : Below w.heap.size w w') : BestV w' base v ys := by
  rcases h with h | ⟨B, d, e, h1, h2⟩
  · exact .inl h
  · exact .inr ⟨B, d, e, h1, (h2.below hb (Nat.le_refl _)).more (Nat.le_refl _) hb.size⟩

set_option maxRecDepth 100000 in
set_option maxHeartbeats 4000000 in
theorem bxExtreme_true (A : Option Addr) (n c : Nat) (xs : List Int) (room : Int) (lo hi : Nat) (w : World) (hn : xs.length = n) (hc : n ≤ c) (hs : Seg w lo hi A xs) (hB : hi ≤ w.heap.size) (ha : askedB xs room = true) (h7 : n ≤ 7) :
    Calls Try.prog 23 #[.slice A n c, .int .i64 room, .bool true] w fun e w' => ∃ v, e = .returned (.tuple #[v, .int .i64 (exE (fun a b => decide (a > b)) room (ordF n xs)).2]) ∧ BestV w' w.heap.size v (exE (fun a b => decide (a > b)) room (ordF n xs)).1 ∧ Below w.heap.size w w' := by
  obtain ⟨h1, h9, hx, hr1, hr2⟩ := askedB_at ha
  rw [hn] at h1 h9
  have HN := Lib.hid hn
  have HA := Lib.hid ha
  have HPM := Lib.hid (ordF_perm n hn)
  have hfew := ordF_few n xs (by omega)
  have hpw : 7 ^ n ≤ 7 ^ 7 := Nat.pow_le_pow_right (by omega) h7
  have hfew2 : (ordF n xs).length ≤ 823543 := Nat.le_trans hfew (Nat.le_trans hpw (by decide))
  clear hfew hpw
  have HO := Lib.hid (bxOrders_any n xs [] none A 0 0 c 0 0 lo hi w hn h7 rfl (by omega) hc .nil_ (Nat.zero_le _) hs hB)
  rw [show ((ordF n xs).map fun l => [] ++ l) = ordF n xs by simp] at HO
  obtain ⟨os, hos⟩ : ∃ os, ordF n xs = os := ⟨_, rfl⟩
  rw [hos] at HPM HO hfew2 ⊢
  obtain ⟨bt, hbt⟩ : ∃ bt : Int → Int → Bool, (fun a b => decide (a > b)) = bt := ⟨_, rfl⟩
  have HBT := Lib.hid (fun a b => congrFun (congrFun hbt a) b)
  rw [hbt]
  clear hn ha hx hos hbt
  go_enter Try.func23, Try.ntmps23
  go_wp2_with fail
  refine HO.out.mono ?_
  rintro e w1 ⟨A1, N, c1, vs, rfl, hN, hr, hb1⟩
  have HR := Lib.hid hr
  have HNN := Lib.hid hN
  rw [hN] at hfew2
  have HB1 := Lib.hid hb1
  have hz1 := hb1.size
  clear hr hN hb1
  go_wp2
  go_loopw [8, 9, 16] (fun v b i wx => ∃ k : Nat, k ≤ N ∧ i = .int .i64 (k : Int) ∧ b = .int .i64 (exE bt room (os.take k)).2 ∧ BestV wx w.heap.size v (exE bt room (os.take k)).1 ∧ Below w1.heap.size w1 wx) (fun _ _ i _ => N - (intOf i).toNat)
  case atStart => exact ⟨0, Nat.zero_le _, rfl, rfl, .inl ⟨rfl, rfl⟩, Below.refl _ _⟩
  case round =>
    obtain ⟨k, hk, rfl, rfl, hbv, hb⟩ := hrel
    have HBV := Lib.hid hbv
    have HB := Lib.hid hb
    have hsz := hb.size
    clear hbv hb
    by_cases hlt : k < N
    · obtain ⟨l, hl⟩ : ∃ l, os[k]? = some l := ⟨_, List.getElem?_eq_getElem (by rw [HNN.out]; exact hlt)⟩
      have hst : exE bt room (os.take (k + 1)) = stepE bt room (exE bt room (os.take k)) l := by rw [List.take_add_one, hl]; exact exE_snoc _ _ _ _
      have hpl := HPM.out l (List.mem_of_getElem? hl)
      have HLN := Lib.hid (hpl.length_eq.trans HN.out)
      have hal := asked_perm hpl HA.out
      obtain ⟨_, _, hxl, _, _⟩ := askedB_at hal
      have HXL := Lib.hid hxl
      have HMR := Lib.hid (most_run (room := room) (xs := l) (by rw [HLN.out]; omega))
      obtain ⟨g, B, d, e1, hg1, hg2, hcell, hown⟩ := (HR.out.below HB.out).at_ hl
      subst e1
      rw [HLN.out] at hcell
      have HOW := Lib.hid hown
      have HSG := Lib.hid hown.seg
      have hkN : (k : Int) < (N : Int) := by omega
      have HLL := Lib.hid hl
      clear hl hpl hal hxl hown
      go_wp2_with fail
      refine (bxOrder_any B n d _ (by omega)).mono ?_
      rintro e w2 ⟨A2, c2, rfl, ho2, hb2⟩
      have hz2 := hb2.size
      have HB2 := Lib.hid hb2
      have HO2 := Lib.hid ho2.seg
      clear ho2 hb2
      go_wp2_with fail
      refine (bxRule_any B A2 n d n c2 room 102 l (List.range n) _ _ _ _ _ HLN.out (by simp) (HSG.out.below HB2.out (Nat.le_refl _)) HO2.out (by omega) (Nat.le_refl _) h9 h9 HXL.out ⟨hr1, hr2⟩ (by rw [HLN.out]; intro i hi; simpa using hi)).mono ?_
      rintro e w3 ⟨rfl, ho3, hb3⟩
      have e3 : (runOrd 102 room l (List.range n) ([], List.replicate n 0)).2 = (run 102 room l ([], [])).2 := by rw [← HLN.out, runOrd_id]
      rw [e3] at ho3
      have HO3 := Lib.hid ho3.seg
      have HB3 := Lib.hid (HB2.out.trans (hb3.mono hz2))
      have hlp : (run 102 room l ([], [])).2.length = n := by rw [run_len]; simp [HLN.out]
      have HLP := Lib.hid hlp
      clear ho3 hb3 e3 hlp
      go_wp2_with fail
      refine (bxMost_any _ n n (run 102 room l ([], [])).2 _ _ _ HLP.out (by omega) HO3.out).mono ?_
      rintro e w4 ⟨rfl, rfl⟩
      have hmr := HMR.out
      obtain ⟨mm, hmm⟩ : ∃ mm, mostOf (run 102 room l ([], [])).2 = mm := ⟨_, rfl⟩
      rw [hmm] at hmr ⊢
      have hbn : boxN room l ≤ 9 ∧ 0 ≤ boxN room l := by
        unfold boxN
        have := run_len1 102 room l ([], [])
        rw [HLN.out] at this
        simp at this
        omega
      have hwm : wrap64 (1 + mm) = boxN room l := by unfold wrap64; omega
      have HBV4 := Lib.hid (HBV.out.below HB3.out)
      have HB4 := Lib.hid (HB.out.trans (HB3.out.mono hsz))
      have HOW4 := Lib.hid ((HOW.out.below HB3.out (Nat.le_refl _)).more (Nat.le_refl _) HB3.out.size)
      have hne : l.isEmpty = false := by cases l with | nil => have := HLN.out; simp at this; omega | cons a b => rfl
      have HNE := Lib.hid hne
      clear hmr hmm hne hbn
      obtain ⟨nb, hnb⟩ : ∃ nb, boxN room l = nb := ⟨_, rfl⟩
      obtain ⟨sb, hsb⟩ : ∃ sb, exE bt room (os.take k) = sb := ⟨_, rfl⟩
      rw [hsb] at HBV4 hst ⊢
      rw [hnb] at hwm
      rw [stepE, hnb] at hst
      obtain ⟨ys, q⟩ := sb
      rcases id HBV4.out with ⟨rfl, e⟩ | ⟨B0, d0, rfl, hye, hr0⟩
      · have e2 : ys = [] := e
        subst e2
        have HST := Lib.hid (show exE bt room (os.take (k + 1)) = (l, nb) from hst)
        clear hst hsb hnb e HBV
        go_wp2
        go_roundw
        case rel => exact ⟨k + 1, by omega, by go_num, by rw [HST.out, hwm], by rw [HST.out]; exact .inr ⟨B, d, by rw [HLN.out], HNE.out, HOW4.out⟩, HB4.out⟩
        case measure => simp [intOf]; omega
      · have hye2 : ys.isEmpty = false := hye
        have hyl : 0 < ys.length := by cases ys with | nil => cases hye2 | cons a b => simp
        have hyb : ((ys.length : Int) == 0) = false := beq_eq_false_iff_ne.2 (by omega)
        have hyd : decide ((ys.length : Int) = 0) = false := decide_eq_false (by omega)
        obtain ⟨yn, hyn⟩ : ∃ yn, ys.length = yn := ⟨_, rfl⟩
        have HYN := Lib.hid hyn
        rw [hyn] at hyb hyd hyl ⊢
        have hbq := HBT.out nb q
        cases hq : bt nb q with
        | true =>
          have hd : decide (nb > q) = true := hbq.trans hq
          have HST := Lib.hid (show exE bt room (os.take (k + 1)) = (l, nb) by rw [hst]; simp [hq])
          clear hst hsb hnb hr0 hye HBV hbq hq hyn hye2
          go_wp2
          go_roundw
          case rel => exact ⟨k + 1, by omega, by go_num, by rw [HST.out, hwm], by rw [HST.out]; exact .inr ⟨B, d, by rw [HLN.out], HNE.out, HOW4.out⟩, HB4.out⟩
          case measure => simp [intOf]; omega
        | false =>
          have hd : decide (nb > q) = false := hbq.trans hq
          have HST := Lib.hid (show exE bt room (os.take (k + 1)) = (ys, q) by rw [hst]; simp [hq, hye2])
          clear hst hsb hnb hr0 hye HBV hbq hq hyn hye2
          go_wp2
          go_roundw
          case rel => exact ⟨k + 1, by omega, by go_num, by rw [HST.out], by rw [HST.out, ← HYN.out]; exact HBV4.out, HB4.out⟩
          case measure => simp [intOf]; omega
    · obtain rfl : N = k := by omega
      rw [List.take_of_length_le (by rw [HNN.out]; exact Nat.le_refl _)] at HBV ⊢
      go_wp2
      go_ret2
      exact ⟨_, rfl, HBV.out, HB1.out.trans (HB.out.mono hz1)⟩

set_option maxRecDepth 100000 in
set_option maxHeartbeats 4000000 in
theorem bxExtreme_false (A : Option Addr) (n c : Nat) (xs : List Int) (room : Int) (lo hi : Nat) (w : World) (hn : xs.length = n) (hc : n ≤ c) (hs : Seg w lo hi A xs) (hB : hi ≤ w.heap.size) (ha : askedB xs room = true) (h7 : n ≤ 7) :
    Calls Try.prog 23 #[.slice A n c, .int .i64 room, .bool false] w fun e w' => ∃ v, e = .returned (.tuple #[v, .int .i64 (exE (fun a b => decide (a < b)) room (ordF n xs)).2]) ∧ BestV w' w.heap.size v (exE (fun a b => decide (a < b)) room (ordF n xs)).1 ∧ Below w.heap.size w w' := by
  obtain ⟨h1, h9, hx, hr1, hr2⟩ := askedB_at ha
  rw [hn] at h1 h9
  have HN := Lib.hid hn
  have HA := Lib.hid ha
  have HPM := Lib.hid (ordF_perm n hn)
  have hfew := ordF_few n xs (by omega)
  have hpw : 7 ^ n ≤ 7 ^ 7 := Nat.pow_le_pow_right (by omega) h7
  have hfew2 : (ordF n xs).length ≤ 823543 := Nat.le_trans hfew (Nat.le_trans hpw (by decide))
  clear hfew hpw
  have HO := Lib.hid (bxOrders_any n xs [] none A 0 0 c 0 0 lo hi w hn h7 rfl (by omega) hc .nil_ (Nat.zero_le _) hs hB)
  rw [show ((ordF n xs).map fun l => [] ++ l) = ordF n xs by simp] at HO
  obtain ⟨os, hos⟩ : ∃ os, ordF n xs = os := ⟨_, rfl⟩
  rw [hos] at HPM HO hfew2 ⊢
  obtain ⟨bt, hbt⟩ : ∃ bt : Int → Int → Bool, (fun a b => decide (a < b)) = bt := ⟨_, rfl⟩
  have HBT := Lib.hid (fun a b => congrFun (congrFun hbt a) b)
  rw [hbt]
  clear hn ha hx hos hbt
  go_enter Try.func23, Try.ntmps23
  go_wp2_with fail
  refine HO.out.mono ?_
  rintro e w1 ⟨A1, N, c1, vs, rfl, hN, hr, hb1⟩
  have HR := Lib.hid hr
  have HNN := Lib.hid hN
  rw [hN] at hfew2
  have HB1 := Lib.hid hb1
  have hz1 := hb1.size
  clear hr hN hb1
  go_wp2
  go_loopw [8, 9, 16] (fun v b i wx => ∃ k : Nat, k ≤ N ∧ i = .int .i64 (k : Int) ∧ b = .int .i64 (exE bt room (os.take k)).2 ∧ BestV wx w.heap.size v (exE bt room (os.take k)).1 ∧ Below w1.heap.size w1 wx) (fun _ _ i _ => N - (intOf i).toNat)
  case atStart => exact ⟨0, Nat.zero_le _, rfl, rfl, .inl ⟨rfl, rfl⟩, Below.refl _ _⟩
  case round =>
    obtain ⟨k, hk, rfl, rfl, hbv, hb⟩ := hrel
    have HBV := Lib.hid hbv
    have HB := Lib.hid hb
    have hsz := hb.size
    clear hbv hb
    by_cases hlt : k < N
    · obtain ⟨l, hl⟩ : ∃ l, os[k]? = some l := ⟨_, List.getElem?_eq_getElem (by rw [HNN.out]; exact hlt)⟩
      have hst : exE bt room (os.take (k + 1)) = stepE bt room (exE bt room (os.take k)) l := by rw [List.take_add_one, hl]; exact exE_snoc _ _ _ _
      have hpl := HPM.out l (List.mem_of_getElem? hl)
      have HLN := Lib.hid (hpl.length_eq.trans HN.out)
      have hal := asked_perm hpl HA.out
      obtain ⟨_, _, hxl, _, _⟩ := askedB_at hal
      have HXL := Lib.hid hxl
      have HMR := Lib.hid (most_run (room := room) (xs := l) (by rw [HLN.out]; omega))
      obtain ⟨g, B, d, e1, hg1, hg2, hcell, hown⟩ := (HR.out.below HB.out).at_ hl
      subst e1
      rw [HLN.out] at hcell
      have HOW := Lib.hid hown
      have HSG := Lib.hid hown.seg
      have hkN : (k : Int) < (N : Int) := by omega
      have HLL := Lib.hid hl
      clear hl hpl hal hxl hown
      go_wp2_with fail
      refine (bxOrder_any B n d _ (by omega)).mono ?_
      rintro e w2 ⟨A2, c2, rfl, ho2, hb2⟩
      have hz2 := hb2.size
      have HB2 := Lib.hid hb2
      have HO2 := Lib.hid ho2.seg
      clear ho2 hb2
      go_wp2_with fail
      refine (bxRule_any B A2 n d n c2 room 102 l (List.range n) _ _ _ _ _ HLN.out (by simp) (HSG.out.below HB2.out (Nat.le_refl _)) HO2.out (by omega) (Nat.le_refl _) h9 h9 HXL.out ⟨hr1, hr2⟩ (by rw [HLN.out]; intro i hi; simpa using hi)).mono ?_
      rintro e w3 ⟨rfl, ho3, hb3⟩
      have e3 : (runOrd 102 room l (List.range n) ([], List.replicate n 0)).2 = (run 102 room l ([], [])).2 := by rw [← HLN.out, runOrd_id]
      rw [e3] at ho3
      have HO3 := Lib.hid ho3.seg
      have HB3 := Lib.hid (HB2.out.trans (hb3.mono hz2))
      have hlp : (run 102 room l ([], [])).2.length = n := by rw [run_len]; simp [HLN.out]
      have HLP := Lib.hid hlp
      clear ho3 hb3 e3 hlp
      go_wp2_with fail
      refine (bxMost_any _ n n (run 102 room l ([], [])).2 _ _ _ HLP.out (by omega) HO3.out).mono ?_
      rintro e w4 ⟨rfl, rfl⟩
      have hmr := HMR.out
      obtain ⟨mm, hmm⟩ : ∃ mm, mostOf (run 102 room l ([], [])).2 = mm := ⟨_, rfl⟩
      rw [hmm] at hmr ⊢
      have hbn : boxN room l ≤ 9 ∧ 0 ≤ boxN room l := by
        unfold boxN
        have := run_len1 102 room l ([], [])
        rw [HLN.out] at this
        simp at this
        omega
      have hwm : wrap64 (1 + mm) = boxN room l := by unfold wrap64; omega
      have HBV4 := Lib.hid (HBV.out.below HB3.out)
      have HB4 := Lib.hid (HB.out.trans (HB3.out.mono hsz))
      have HOW4 := Lib.hid ((HOW.out.below HB3.out (Nat.le_refl _)).more (Nat.le_refl _) HB3.out.size)
      have hne : l.isEmpty = false := by cases l with | nil => have := HLN.out; simp at this; omega | cons a b => rfl
      have HNE := Lib.hid hne
      clear hmr hmm hne hbn
      obtain ⟨nb, hnb⟩ : ∃ nb, boxN room l = nb := ⟨_, rfl⟩
      obtain ⟨sb, hsb⟩ : ∃ sb, exE bt room (os.take k) = sb := ⟨_, rfl⟩
      rw [hsb] at HBV4 hst ⊢
      rw [hnb] at hwm
      rw [stepE, hnb] at hst
      obtain ⟨ys, q⟩ := sb
      rcases id HBV4.out with ⟨rfl, e⟩ | ⟨B0, d0, rfl, hye, hr0⟩
      · have e2 : ys = [] := e
        subst e2
        have HST := Lib.hid (show exE bt room (os.take (k + 1)) = (l, nb) from hst)
        clear hst hsb hnb e HBV
        go_wp2
        go_roundw
        case rel => exact ⟨k + 1, by omega, by go_num, by rw [HST.out, hwm], by rw [HST.out]; exact .inr ⟨B, d, by rw [HLN.out], HNE.out, HOW4.out⟩, HB4.out⟩
        case measure => simp [intOf]; omega
      · have hye2 : ys.isEmpty = false := hye
        have hyl : 0 < ys.length := by cases ys with | nil => cases hye2 | cons a b => simp
        have hyb : ((ys.length : Int) == 0) = false := beq_eq_false_iff_ne.2 (by omega)
        have hyd : decide ((ys.length : Int) = 0) = false := decide_eq_false (by omega)
        obtain ⟨yn, hyn⟩ : ∃ yn, ys.length = yn := ⟨_, rfl⟩
        have HYN := Lib.hid hyn
        rw [hyn] at hyb hyd hyl ⊢
        have hbq := HBT.out nb q
        cases hq : bt nb q with
        | true =>
          have hd : decide (nb < q) = true := hbq.trans hq
          have HST := Lib.hid (show exE bt room (os.take (k + 1)) = (l, nb) by rw [hst]; simp [hq])
          clear hst hsb hnb hr0 hye HBV hbq hq hyn hye2
          go_wp2
          go_roundw
          case rel => exact ⟨k + 1, by omega, by go_num, by rw [HST.out, hwm], by rw [HST.out]; exact .inr ⟨B, d, by rw [HLN.out], HNE.out, HOW4.out⟩, HB4.out⟩
          case measure => simp [intOf]; omega
        | false =>
          have hd : decide (nb < q) = false := hbq.trans hq
          have HST := Lib.hid (show exE bt room (os.take (k + 1)) = (ys, q) by rw [hst]; simp [hq, hye2])
          clear hst hsb hnb hr0 hye HBV hbq hq hyn hye2
          go_wp2
          go_roundw
          case rel => exact ⟨k + 1, by omega, by go_num, by rw [HST.out], by rw [HST.out, ← HYN.out]; exact HBV4.out, HB4.out⟩
          case measure => simp [intOf]; omega
    · obtain rfl : N = k := by omega
      rw [List.take_of_length_le (by rw [HNN.out]; exact Nat.le_refl _)] at HBV ⊢
      go_wp2
      go_ret2
      exact ⟨_, rfl, HBV.out, HB1.out.trans (HB.out.mono hz1)⟩
end Go.Proofs.Ytgcljhgpihpfgac

/-
  The given program's FirstBestCut.
  Conditions: the list has at most 1048576 numbers.
-/
import Derived.Test.YthlhpddfifpkeabCutsB
import Derived.Test.YthlhpddfifpkeabAppend
import Derived.Test.YthlhpddfifpkeabL1Own
import Derived.Deep.QuietTactic
import Derived.BigQuiet
namespace Go.Proofs.Ythlhpddfifpkeab
set_option linter.unusedVariables false
open Go.RowKit

def firstC (q : Bool) (ps : List Int) (rod : Int) : List Int := if q = true then (fromE ps 1 rod.toNat).first else []

theorem fromE_good {ps : List Int} (hp : ∀ (k : Nat) u, ps[k]? = some u → 0 ≤ u ∧ u ≤ 1000) {q : Nat} (h1 : 1 ≤ q) (h2 : q ≤ ps.length + 1) (n : Nat) : GoodE q n (fromE ps q n) := by
  have h := GoodE.tab hp (ps.length + 1 - q) (by omega) n
  rw [show ps.length + 1 - (ps.length + 1 - q) = q by omega] at h
  exact h

theorem fromE_len {ps : List Int} (hp : ∀ (k : Nat) u, ps[k]? = some u → 0 ≤ u ∧ u ≤ 1000) {q : Nat} (h1 : 1 ≤ q) (h2 : q ≤ ps.length + 1) (n : Nat) : (fromE ps q n).first.length ≤ n := by
  rcases (fromE_good hp h1 h2 n).1 with ⟨_, _, h⟩ | ⟨_, _, _, h⟩
  · rw [h]; exact Nat.zero_le _
  · exact h

theorem firstC_len {q : Bool} {ps : List Int} {rod : Int} (hq : cutB ps rod = q) : (firstC q ps rod).length ≤ 1048576 := by
  cases q
  · simp [firstC]
  · obtain ⟨r, rfl, h60, hr0, hr, hp⟩ := cutB_at rfl hq
    have := fromE_len hp (q := 1) (by omega) (by omega) r
    simp [firstC]
    omega

set_option maxRecDepth 100000 in
set_option maxHeartbeats 2000000 in
theorem spec_FirstBestCut (A : Option Addr) (n c : Nat) (ps : List Int) (rod : Int) (lo hi : Nat) (w : World) (hn : ps.length = n) (hlen : n ≤ 1048576) (hs : Seg w lo hi A ps) (hB : hi ≤ w.heap.size) (q : Bool) (hq : cutB ps rod = q) :
    Calls Try.prog 32 #[.slice A n c, .int .i64 rod] w (RetL q (firstC q ps rod) w) := by
  have HN := Lib.hid hn
  have HQ := Lib.hid hq
  cases q
  · clear hn hq
    go_enter Try.func32, Try.ntmps32
    go_wp2_with (go_at_call 75; refine (rdPrices_any _ _ _ ps _ lo hi _ HN.out hlen hs _ HQ.out).mono ?_; rintro e w' ⟨rfl, rfl⟩)
    go_ret2
    exact ⟨_, _, _, rfl, rfl, Own.nil_, Below.refl _ _⟩
  · obtain ⟨i0, hi0, hz0, hz1, hz2⟩ := info_parts int_info
    obtain ⟨r, rfl, h60, hr0, hr, hp⟩ := cutB_at hn hq
    have hn1 : 1 ≤ n := by
      simp only [cutB, someB, Bool.and_eq_true] at hq
      have := inB_true.1 hq.1.1
      omega
    have hw0 : 0 ≤ (fromE ps 1 r).worth := by
      have h := tabE_some hp (by omega) r
      unfold fromE
      rw [Nat.add_sub_cancel]
      exact h
    have HP := Lib.hid hp
    have HW0 := Lib.hid hw0
    clear hn hq hp hw0
    go_enter Try.func32, Try.ntmps32
    go_wp2_with fail
    refine (rdPrices_any _ _ _ ps _ lo hi _ HN.out hlen hs _ HQ.out).mono ?_
    rintro e w' ⟨rfl, rfl⟩
    go_wp2_with fail
    refine (rdWorth_one A n c ps r lo hi _ HN.out h60 hs hB HP.out hr).mono ?_
    rintro e w1 ⟨g1, g2, rfl, h1, h2, hb1⟩
    have hc := h1.cell (worthR_get (Nat.le_refl r))
    clear h1 h2
    go_wp2
    clear hc
    go_loopw [1, 8, 9, 10, 11, 12] (fun rv dv v lv _ _ wr => ∃ m L : Nat, rv = .int .i64 m ∧ lv = .int .i64 L ∧ dv = .int .i64 (fromE ps L m).worth ∧ 1 ≤ L ∧ L ≤ n + 1 ∧ 0 ≤ (fromE ps L m).worth ∧ Below w.heap.size w wr ∧ (∃ ys, ys.length + m ≤ r ∧ ys ++ (fromE ps L m).first = (fromE ps 1 r).first ∧ wr.ownsRow w.heap.size 3 1 v ys.length (ys.map (Value.int .i64)))) (fun rv _ _ lv _ _ _ => (intOf rv).toNat + (n + 1 - (intOf lv).toNat))
    case atStart => exact ⟨r, 1, rfl, rfl, rfl, Nat.le_refl _, by omega, HW0.out, hb1, [], by simp, by simp, World.ownsRow_nil _ _ _ _⟩
    clear hb1
    case round =>
      obtain ⟨m, L, rfl, rfl, rfl, hL1, hL2, hw0, hb, ys, hyl, hys, hown⟩ := hrel
      have hz := hb.size
      have HYS := Lib.hid hys
      have HOW := Lib.hid hown
      clear hys
      obtain ⟨A', c', rfl⟩ := ownsRow_form hown
      by_cases hm : 0 < m
      · have hLn : L ≤ n := by
          rcases Nat.lt_or_ge n L with h | h
          · have := fromE_out (ps := ps) (q := L) (n := m) (by rw [HN.out]; exact h) hm
            omega
          · exact h
        obtain ⟨l, rfl⟩ : ∃ l, L = l + 1 := ⟨L - 1, by omega⟩
        obtain ⟨bp, op, p, rfl, _, hbp, hx, hcx⟩ := hs.at_ (k := l) (by rw [HN.out]; omega)
        have hpb := HP.out l p hx
        have hpg : ps.getD (l + 1 - 1) 0 = p := by simp [List.getD, hx]
        have HT := Lib.hid (fun (h2 : l + 1 ≤ m) (ha : 0 ≤ (fromE ps (l + 1) (m - (l + 1))).worth) (h : (fromE ps (l + 1) (m - (l + 1))).worth + p = (fromE ps (l + 1) m).worth) => first_take (ps := ps) (q := l + 1) (n := m) (due := (fromE ps (l + 1) m).worth) (by omega) (by rw [HN.out]; omega) h2 rfl ha (by rw [hpg]; exact h))
        have HK := Lib.hid (fun (h : m < l + 1 ∨ (fromE ps (l + 1) (m - (l + 1))).worth < 0 ∨ (fromE ps (l + 1) (m - (l + 1))).worth + p ≠ (fromE ps (l + 1) m).worth) => first_skip (ps := ps) (q := l + 1) (n := m) (due := (fromE ps (l + 1) m).worth) (by omega) (by rw [HN.out]; omega) rfl (by rw [hpg]; exact h))
        have hgm := (fromE_good HP.out (q := l + 1) (by omega) (by rw [HN.out]; omega) m).1
        obtain ⟨due, hdue⟩ : ∃ due, (fromE ps (l + 1) m).worth = due := ⟨_, rfl⟩
        rw [hdue] at hw0 hgm HT HK
        rw [hdue]
        have HD := Lib.hid hdue
        have hdb : due ≤ 60000 := by rcases hgm with h | h <;> omega
        clear hdue hx hpg hgm
        have hm60 : m ≤ 60 := by omega
        have hsw := hs.below hb hB
        by_cases c1 : l + 1 ≤ m
        · obtain ⟨d, rfl⟩ : ∃ d, m = l + 1 + d := ⟨m - (l + 1), by omega⟩
          rw [Nat.add_sub_cancel_left] at HT HK
          have hga := (fromE_good HP.out (q := l + 1) (by omega) (by rw [HN.out]; omega) d).1
          obtain ⟨a, ha⟩ : ∃ a, (fromE ps (l + 1) d).worth = a := ⟨_, rfl⟩
          rw [ha] at hga HT HK
          have hab : -1 ≤ a ∧ a ≤ 60000 := by rcases hga with h | h <;> omega
          obtain ⟨hab1, hab2⟩ := hab
          have HAA := Lib.hid ha
          clear ha hga
          go_wp2_with fail
          refine (rdWorth_any _ n c ps (l + 1 + d) (l + 1) lo hi wr HN.out h60 hsw (by omega) HP.out hm60 (by omega) (by omega)).mono ?_
          rintro e w2 ⟨g1, g2, rfl, h1, h2, hb2⟩
          have hc2 := h1.cell (worthR_get (k := d) (T := fromE ps (l + 1)) (by omega))
          rw [HAA.out] at hc2
          have hbw : Below w.heap.size w w2 := hb.trans (hb2.mono hz)
          have hcp := (hbw.cell (p := ⟨bp, op + l, none⟩) (by exact Nat.lt_of_lt_of_le hbp hB)).trans hcx
          have hown2 := row_below hown hb2
          have hz2' := hbw.size
          clear h1 h2 hown hcx
          have hd1 : decide ((l : Int) + 1 ≤ (l : Int) + 1 + (d : Int)) = true := by rw [decide_eq_true_iff]; omega
          have hsw1 : IntKind.i64.wrap ((l : Int) + 1 + (d : Int) - ((l : Int) + 1)) = (d : Int) := by rw [IntWalk.i64_in _ (by omega)]; omega
          have hsw2 : IntKind.i64.wrap (a + p) = a + p := IntWalk.i64_in _ (by omega)
          have hsw3 : IntKind.i64.wrap (l : Int) = (l : Int) := IntWalk.i64_in _ (by omega)
          have hln : (l : Int) < (n : Int) := by omega
          have hdr : (d : Int) < (l : Int) + 1 + (d : Int) + 1 := by omega
          by_cases c2 : 0 ≤ a
          · have hc2d : decide (0 ≤ a) = true := by simpa using c2
            by_cases c3 : a + p = due
            · have hcb : (a + p == due) = true := by simpa using c3
              have HE := Lib.hid (HT.out (by omega) c2 c3)
              have C3 := Lib.hid c3
              clear c3
              go_wp2
              go_quiet (fail)
              have hownq : (w2.drewN nq).ownsRow w.heap.size 3 1 (.slice A' ys.length c') ys.length (ys.map (Value.int .i64)) := hown2
              have hbwq : Below w.heap.size w (w2.drewN nq) := below_drewN hbw nq
              have HOA := Lib.hid (hownq.alloc (.cells #[.int .i64 ((l + 1 : Nat) : Int)] 3))
              have HS1 := Lib.hid (seg_one (w2.drewN nq) ((l + 1 : Nat) : Int) 3)
              have HLT := Lib.hid hownq.lt
              have HBQ := Lib.hid hbwq
              clear hown2 hownq hbwq
              go_wp2_with (at_builtin; refine wpList_append_seg _ rfl _ _ 22 rfl w.heap.size 3 i0 Try.underlying22 hi0 hz0 hz1 hz2 _ ys.length _ rfl HOA.out _ 1 1 [((l + 1 : Nat) : Int)] _ _ rfl rfl HS1.out (by omega) (by simp; omega) ?_; intro v3 w3 hown3 hgr3; have HB3 := Lib.hid ((HBQ.out.alloc HBQ.out.size _).grown hgr3 (by simp; omega) (fun g hg => (HLT.out g hg).1)); have HO3 := Lib.hid hown3; clear hown3 hgr3; have hcp3 := (HB3.out.cell (p := ⟨bp, op + l, none⟩) (by exact Nat.lt_of_lt_of_le hbp hB)).trans ((hbw.cell (p := ⟨bp, op + l, none⟩) (by exact Nat.lt_of_lt_of_le hbp hB)).symm.trans hcp))
              go_roundw
              case rel =>
                refine ⟨d, l + 1, by go_num, rfl, by rw [HAA.out]; have := C3.out; congr 1; omega, by omega, by omega, by rw [HAA.out]; exact c2, HB3.out, ys ++ [((l + 1 : Nat) : Int)], by rw [List.length_append]; simp; omega, by rw [List.append_assoc, ← HYS.out, HE.out]; rfl, ?_⟩
                simpa using HO3.out
              case measure => simp [intOf]; omega
            · have hcb : (a + p == due) = false := by simpa using c3
              have HE := Lib.hid (HK.out (.inr (.inr c3)))
              have HO := Lib.hid hown2
              clear hown2
              go_wp2
              go_quiet (fail)
              go_wp2
              go_roundw
              case rel => (first | exact ⟨l + 1 + d, l + 1 + 1, rfl, by go_num, by rw [← HE.out, HD.out], by omega, by omega, by rw [← HE.out, HD.out]; exact hw0, below_drewN hbw _, ys, hyl, by rw [← HE.out]; exact HYS.out, HO.out⟩ | ((repeat apply Exists.intro); refine ⟨?_, rfl⟩; exact ⟨l + 1 + d, l + 1 + 1, rfl, by go_num, by rw [← HE.out, HD.out], by omega, by omega, by rw [← HE.out, HD.out]; exact hw0, below_drewN hbw _, ys, hyl, by rw [← HE.out]; exact HYS.out, HO.out⟩))
              case measure => simp [intOf]; omega
          · have hc2d : decide (0 ≤ a) = false := by simpa using c2
            have HE := Lib.hid (HK.out (.inr (.inl (by omega))))
            have HO := Lib.hid hown2
            clear hown2
            go_wp2
            go_quiet (fail)
            go_wp2
            go_roundw
            case rel => (first | exact ⟨l + 1 + d, l + 1 + 1, rfl, by go_num, by rw [← HE.out, HD.out], by omega, by omega, by rw [← HE.out, HD.out]; exact hw0, below_drewN hbw _, ys, hyl, by rw [← HE.out]; exact HYS.out, HO.out⟩ | ((repeat apply Exists.intro); refine ⟨?_, rfl⟩; exact ⟨l + 1 + d, l + 1 + 1, rfl, by go_num, by rw [← HE.out, HD.out], by omega, by omega, by rw [← HE.out, HD.out]; exact hw0, below_drewN hbw _, ys, hyl, by rw [← HE.out]; exact HYS.out, HO.out⟩))
            case measure => simp [intOf]; omega
        · have hd1 : decide ((l : Int) + 1 ≤ (m : Int)) = false := by rw [decide_eq_false_iff_not]; omega
          have HE := Lib.hid (HK.out (.inl (by omega)))
          go_wp2_with fail
          refine (rdWorth_any _ n c ps m (l + 1) lo hi wr HN.out h60 hsw (by omega) HP.out hm60 (by omega) (by omega)).mono ?_
          rintro e w2 ⟨g1, g2, rfl, h1, h2, hb2⟩
          have hbw : Below w.heap.size w w2 := hb.trans (hb2.mono hz)
          have HO := Lib.hid (row_below hown hb2)
          clear h1 h2 hown hcx
          go_wp2
          go_quiet (fail)
          go_wp2
          go_roundw
          case rel => (first | exact ⟨m, l + 1 + 1, rfl, by go_num, by rw [← HE.out, HD.out], by omega, by omega, by rw [← HE.out, HD.out]; exact hw0, below_drewN hbw _, ys, hyl, by rw [← HE.out]; exact HYS.out, HO.out⟩ | ((repeat apply Exists.intro); refine ⟨?_, rfl⟩; exact ⟨m, l + 1 + 1, rfl, by go_num, by rw [← HE.out, HD.out], by omega, by omega, by rw [← HE.out, HD.out]; exact hw0, below_drewN hbw _, ys, hyl, by rw [← HE.out]; exact HYS.out, HO.out⟩))
          case measure => simp [intOf]; omega
      · obtain rfl : m = 0 := by omega
        have hF : ys = firstC true ps (r : Int) := by
          have h := HYS.out
          rw [fromE_zero ps hL1] at h
          simp at h
          simp [firstC, h]
        go_wp2
        go_ret2
        rw [← hF]
        exact ⟨A', _, c', rfl, rfl, (ownsRow_own HOW.out).2, hb⟩

set_option maxHeartbeats 400000 in
theorem impl_FirstBestCut (A : Option Addr) (n c : Nat) (ps : List Int) (rod : Int) (lo hi : Nat) (w : World) (hn : ps.length = n) (hlen : n ≤ 1048576) (hs : Seg w lo hi A ps) (hB : hi ≤ w.heap.size) (q : Bool) (hq : cutB ps rod = q) :
    Calls Try.prog 33 #[.slice A n c, .int .i64 rod] w (RetL q (firstC q ps rod) w) := by
  have HN := Lib.hid hn
  rcases cutB_parts (ps := ps) (rod := rod) hq with ⟨rfl, h1, h2⟩ | ⟨rfl, h1⟩ | ⟨rfl, h1, h2⟩
  · obtain ⟨r, rfl, h60, hr0, hr, hp⟩ := cutB_at hn hq
    have hn1 := some_one hn h1
    have HP := Lib.hid hp
    have H1 := Lib.hid h1
    have H2 := Lib.hid h2
    clear hn hq hp h1 h2
    go_enter Try.func33, Try.ntmps33
    go_wp2_with fail
    refine (arePrices_any _ _ _ ps lo hi _ HN.out hlen hs _ H1.out).mono ?_
    rintro e w' ⟨rfl, rfl⟩
    go_wp2_with fail
    refine (isRod_any _ _ _ H2.out).mono ?_
    rintro e w' ⟨rfl, rfl⟩
    go_wp2_with fail
    refine (bestCutsOf_any A n c ps r lo hi _ HN.out hn1 h60 hs hB HP.out hr).mono ?_
    rintro e w1 ⟨A1, c1, rfl, h1, hb⟩
    have hfd := field_first (fromE ps 1 r).worth A1 (fromE ps 1 r).first.length c1 (fromE ps 1 r).count
    have HO := Lib.hid h1
    have HF := Lib.hid (show firstC true ps (r : Int) = (fromE ps 1 r).first by simp [firstC])
    clear h1
    go_wp2
    go_ret2
    exact ⟨A1, _, c1, rfl, by rw [HF.out], by rw [HF.out]; exact HO.out, hb⟩
  · have H1 := Lib.hid h1
    clear hn hq h1
    go_enter Try.func33, Try.ntmps33
    go_wp2_with (go_at_call 77; refine (arePrices_any _ _ _ ps lo hi _ HN.out hlen hs _ H1.out).mono ?_; rintro e w' ⟨rfl, rfl⟩)
    go_ret2
    exact ⟨_, _, _, rfl, rfl, Own.nil_, Below.refl _ _⟩
  · have H1 := Lib.hid h1
    have H2 := Lib.hid h2
    clear hn hq h1 h2
    go_enter Try.func33, Try.ntmps33
    go_wp2_with (first
      | (go_at_call 77; refine (arePrices_any _ _ _ ps lo hi _ HN.out hlen hs _ H1.out).mono ?_; rintro e w' ⟨rfl, rfl⟩)
      | (go_at_call 78; refine (isRod_any _ _ _ H2.out).mono ?_; rintro e w' ⟨rfl, rfl⟩))
    go_ret2
    exact ⟨_, _, _, rfl, rfl, Own.nil_, Below.refl _ _⟩
end Go.Proofs.Ythlhpddfifpkeab

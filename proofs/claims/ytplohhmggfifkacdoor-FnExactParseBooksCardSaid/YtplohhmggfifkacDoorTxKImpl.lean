/-
  The written program's books of a text.
  Conditions: the text has at most 1048576 bytes; the library's variables read as the program's text writes them.
-/
import Derived.Test.YtplohhmggfifkacDoorTxKSpec
namespace Go.Proofs.YtplohhmggfifkacDoor
set_option linter.unusedVariables false
open Go.RowKit

theorem takesK_no {s : ByteArray} {x : ByteArray} (hx : x ∈ cutN 44 12 s) (h : twoA x = false) : takesK s = false := by
  rw [takesK, List.all_eq_false.2 ⟨x, hx, by simp [h]⟩, Bool.false_and]
theorem takesK_all {s : ByteArray} (h : ∀ x ∈ cutN 44 12 s, twoA x = true) : takesK s = (goodK (bksA s) && (joinB 44 ((bksA s).map bkS)).toList == s.toList) := by
  rw [takesK, List.all_eq_true.2 h, Bool.true_and]
theorem someK_no (t : ByteArray) : someK false t = ⟨#[]⟩ := rfl

/-- Two numbers in memory. -/
theorem Seg.cell2 {w : World} {lo hi : Nat} {A : Option Addr} {t u : Int} (h : Seg w lo hi A [t, u]) :
    ∃ b off, A = some ⟨b, off, none⟩ ∧ lo ≤ b ∧ b < hi ∧ w.cell? ⟨b, off, none⟩ = some (.int .i64 t) ∧ w.cell? ⟨b, off + 1, none⟩ = some (.int .i64 u) := by
  rcases h with h | ⟨b, off, rfl, h1, h2, h3⟩
  · cases h
  · exact ⟨b, off, rfl, h1, h2, by simpa using h3 0 (by simp), by simpa using h3 1 (by simp)⟩

set_option maxRecDepth 100000 in
set_option maxHeartbeats 4000000 in
theorem implParseBooks_any (s : ByteArray) (w : World) (hmax : s.size ≤ 1048576) (hv : Vars w) (hT : Tab w) (hcl : (cutN 44 12 s).length ≤ 12) (q : Bool) (hq : takesK s = q) :
    Calls Tryd.prog 21 #[.string s] w (RetKL q (listK q (bksA s)) w) := by
  have hsz : ∀ x ∈ cutN 44 12 s, x.size ≤ 1048576 ∧ (∀ y ∈ cutN 124 2 x, y.size ≤ 1048576) ∧ (cutN 124 2 x).length ≤ 2 := by
    intro x hx
    have h1 := Nat.le_trans (piece_size _ _ _ x hx) hmax
    refine ⟨h1, fun y hy => Nat.le_trans (piece_size _ _ _ y hy) h1, ?_⟩
    have := Lib.splitB_length_le ⟨#[124]⟩ 0 (min 2 (x.size + 1) - 1) x
    unfold cutN
    omega
  have HV := Lib.hid hv
  have HT := Lib.hid hT
  have HQ := Lib.hid hq
  have HZ := Lib.hid hsz
  have HNO := Lib.hid (fun x hx h => takesK_no (s := s) (x := x) hx h)
  have HALL := Lib.hid (takesK_all (s := s))
  have HBK := Lib.hid (show bksA s = (cutN 44 12 s).map pairA from rfl)
  clear hv hT hq hsz
  go_enter Tryd.func21, Tryd.ntmps21
  go_wp2_with fail
  refine (splitN_any 44 12 s _ hmax (by omega) (by omega) HV.out).mono ?_
  rintro e w1 ⟨c, rfl, hcell, hlt1, hb1⟩
  have hz1 := hb1.size
  have HV1 := Lib.hid (HV.out.below hb1 (Nat.le_refl _))
  have HT1 := Lib.hid (HT.out.below hb1 (Nat.le_refl _))
  generalize hW : cutN 44 12 s = ws at *
  generalize hBS : bksA s = bs at *
  obtain ⟨n, hn⟩ : ∃ n, ws.length = n := ⟨_, rfl⟩
  rw [hn] at hcl ⊢
  have HN := Lib.hid hn
  have HC := Lib.hid hcell
  have HBL := Lib.hid (show bs.length = n by rw [HBK.out, List.length_map]; exact hn)
  have hmk := make_books n (by omega)
  have HP0 := Lib.hid (book_part_new w1 48 n (.int .i64 0) (.int .i64 0) (flat bs))
  have HB0 := Lib.hid ((Below.refl w1.heap.size w1).alloc (Nat.le_refl _) (.cells (madeCells #[.int .i64 0, .int .i64 0] (n * 2)) 48))
  clear hcell hW hn hBS
  go_wp2
  clear hmk
  go_loopw [19] (fun i wr => ∃ k : Nat, k ≤ n ∧ i = .int .i64 k ∧ Below w1.heap.size w1 wr ∧ Part wr w1.heap.size 48 (n * 2) (k * 2) (flat bs) ∧ ∀ (j : Nat) x, j < k → ws[j]? = some x → twoA x = true) (fun i _ => n - (intOf i).toNat)
  case atStart => exact ⟨0, Nat.zero_le _, rfl, HB0.out, HP0.out, fun j x hj => by omega⟩
  case round =>
    obtain ⟨k, hk, rfl, hb, hp, hall⟩ := hrel
    have hz := hb.size
    have HA := Lib.hid hall
    have HP := Lib.hid hp
    clear hall hp
    by_cases hlt : k < n
    · obtain ⟨x, hx⟩ : ∃ x, ws[k]? = some x := ⟨_, List.getElem?_eq_getElem (by rw [HN.out]; exact hlt)⟩
      have hc : wr.cell? ⟨w.heap.size, k, none⟩ = some (.string x) := (hb.cell hlt1).trans (HC.out k x hx)
      have HX := Lib.hid hx
      obtain ⟨hx1, hx2, hx3⟩ := HZ.out x (List.mem_of_getElem? hx)
      have HBK := Lib.hid (show bs[k]? = some (pairA x) by rw [HBK.out, List.getElem?_map, hx]; rfl)
      obtain ⟨ns, hns⟩ : ∃ ns, numsA (cutN 124 2 x) = ns := ⟨_, rfl⟩
      obtain ⟨p, hp⟩ : ∃ p, allNum (cutN 124 2 x) = p := ⟨_, rfl⟩
      have HNS := Lib.hid hns
      have HPP := Lib.hid hp
      have hnl : ns.length = (cutN 124 2 x).length := by rw [← hns, numsA, List.length_map]
      rw [← hnl] at hx3
      have HNL := Lib.hid hnl
      clear hx hns hp hnl
      go_wp2_with fail
      refine (splitNumbers_any 124 2 x _ hx1 (by omega) (by omega) (HV1.out.below hb (Nat.le_refl _)) hx2 (by rw [← HNL.out]; omega) p HPP.out).mono ?_
      rw [HNS.out]
      rintro e w2 ⟨A2, n2, c2, rfl, hn2, hown2, hb2⟩
      have HB2 := Lib.hid (hb.trans (hb2.mono hz))
      have HP2 := Lib.hid (show Part w2 w1.heap.size 48 (n * 2) (k * 2) (flat bs) from HP.out.keep (hb2.block _ HP.out.lt))
      have no : twoA x = false → q = false := fun h => by rw [← HQ.out]; exact HNO.out x (List.mem_of_getElem? HX.out) h
      have HNOX := Lib.hid no
      clear no
      cases p
      · obtain rfl : q = false := HNOX.out (by rw [twoA, HPP.out, Bool.false_and])
        clear hn2 hown2
        go_wp2
        go_ret2
        exact ⟨none, 0, 0, rfl, rfl, Own.nil_, hb1.trans (HB2.out.mono hz1)⟩
      · rw [someL_yes] at hn2 hown2
        by_cases h2 : n2 = 2
        · subst h2
          obtain ⟨t, u, hns2⟩ : ∃ t u, ns = [t, u] := by
            match ns, hn2 with
            | [t, u], _ => exact ⟨t, u, rfl⟩
          subst hns2
          have HT2 := Lib.hid (show twoA x = true by rw [twoA, HPP.out, ← HNL.out]; rfl)
          have HPR := Lib.hid (show bs[k]? = some (t, u) by rw [HBK.out, pairA, HNS.out]; rfl)
          obtain ⟨b2, o2, rfl, hl2, hh2, hcl⟩ := (hown2.seg).cell2
          have hcl0 := hcl.1
          have hcl1 := hcl.2
          obtain ⟨v0, hv0⟩ := HP2.out.cell (k * 2) (by omega)
          obtain ⟨v1, hv1⟩ := HP2.out.cell (k * 2 + 1) (by omega)
          have hf0 := HP2.out.frozen (k * 2)
          have hf1 := HP2.out.frozen (k * 2 + 1)
          have HSB := Lib.hid (show Below w1.heap.size w1 ((w2.setCell ⟨w1.heap.size, k * 2, none⟩ (.int .i64 t)).setCell ⟨w1.heap.size, k * 2 + 1, none⟩ (.int .i64 u)) from (HB2.out.setCell (Nat.le_refl _) _).setCell (Nat.le_refl _) _)
          have HPB := Lib.hid (HP2.out.book hlt HPR.out)
          clear hn2 hown2 hcl
          go_wp2
          go_region
          go_wp2
          go_roundw
          case rel =>
            refine ⟨k + 1, by omega, by go_num, HSB.out.drew, HPB.out, fun j y hj hy => ?_⟩
            by_cases e : j = k
            · subst e; rw [HX.out] at hy; injection hy with hy; subst hy; exact HT2.out
            · exact HA.out j y (by omega) hy
          case measure => simp [intOf]; omega
        · obtain rfl : q = false := HNOX.out (by rw [twoA, HPP.out, ← HNL.out, hn2, decide_eq_false h2, Bool.and_false])
          clear hown2
          go_wp2
          go_ret2
          exact ⟨none, 0, 0, rfl, rfl, Own.nil_, hb1.trans (HB2.out.mono hz1)⟩
    · obtain rfl : k = n := by omega
      have hqe : (goodK bs && (joinB 44 (bs.map bkS)).toList == s.toList) = q := by
        rw [← HQ.out]
        exact (HALL.out fun x hx => by
          obtain ⟨j, hj⟩ := List.getElem?_of_mem hx
          exact HA.out j x (by have := (List.getElem?_eq_some_iff.1 hj).1; have := HN.out; omega) hj).symm
      have HOWN := Lib.hid (show Own wr w1.heap.size wr.heap.size (some ⟨w1.heap.size, 0, none⟩) (flat bs) from (show Part wr w1.heap.size 48 (k * 2) (flat bs).length (flat bs) by rw [flat_length, HBL.out]; exact HP.out).own (Nat.le_refl _) HP.out.lt)
      obtain ⟨gb, hgb⟩ : ∃ gb, goodK bs = gb := ⟨_, rfl⟩
      obtain ⟨tt, htt⟩ : ∃ tt, joinB 44 (bs.map bkS) = tt := ⟨_, rfl⟩
      obtain ⟨ts, hts⟩ : ∃ ts, someK gb tt = ts := ⟨_, rfl⟩
      rw [htt] at hqe
      have HG := Lib.hid hgb
      have HTT := Lib.hid htt
      have HTS := Lib.hid hts
      have HQE := Lib.hid hqe
      have HFB := Lib.hid (hb1.trans (hb.mono hz1))
      have hTr := HT1.out.below hb (Nat.le_refl _)
      clear hqe hgb htt hts
      cases gb
      · obtain rfl : q = false := by rw [← HQE.out, HG.out, Bool.false_and]
        go_wp2_with fail
        refine (implBooksText_any _ k _ bs _ _ _ HBL.out (by omega) HOWN.out.seg (Nat.le_refl _) _ HG.out hTr).mono ?_
        rw [HTT.out, HTS.out]
        rintro e w2 ⟨rfl, hb2⟩
        go_wp2
        go_ret2
        exact ⟨none, 0, 0, rfl, rfl, Own.nil_, HFB.out.trans (hb2.mono HFB.out.size)⟩
      · have HE := Lib.hid (show (ts.toList == s.toList) = q by rw [← HQE.out, HG.out, Bool.true_and, ← HTS.out]; rfl)
        cases q
        all_goals
          have hE := HE.out
          go_wp2_with fail
          refine (implBooksText_any _ k _ bs _ _ _ HBL.out (by omega) HOWN.out.seg (Nat.le_refl _) _ HG.out hTr).mono ?_
          rw [HTT.out, HTS.out]
          rintro e w2 ⟨rfl, hb2⟩
          go_wp2
          go_ret2
          first
            | exact ⟨none, 0, 0, rfl, rfl, Own.nil_, HFB.out.trans (hb2.mono HFB.out.size)⟩
            | exact ⟨_, k, k, rfl, HBL.out, (HOWN.out.below hb2 (Nat.le_refl _)).more hz1 hb2.size, HFB.out.trans (hb2.mono HFB.out.size)⟩
end Go.Proofs.YtplohhmggfifkacDoor

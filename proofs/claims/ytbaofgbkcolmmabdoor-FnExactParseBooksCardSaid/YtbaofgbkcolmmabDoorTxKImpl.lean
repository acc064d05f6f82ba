/-
  The written program's books of a text.
  Conditions: the text has at most 1048576 bytes; the library's variables read as the program's text writes them.
-/
import Derived.Test.YtbaofgbkcolmmabDoorTxKSpec
namespace Go.Proofs.YtbaofgbkcolmmabDoor
set_option linter.unusedVariables false
open Go.RowKit

theorem takesK_no {s : ByteArray} {x : ByteArray} (hx : x ∈ cutN 44 12 s) (h : twoA x = false) : takesK s = false := by
  rw [takesK, List.all_eq_false.2 ⟨x, hx, by simp [h]⟩, Bool.false_and]
theorem takesK_all {s : ByteArray} (h : ∀ x ∈ cutN 44 12 s, twoA x = true) : takesK s = (goodK (bksA s) && (joinB 44 ((bksA s).map bkS)).toList == s.toList) := by
  rw [takesK, List.all_eq_true.2 h, Bool.true_and]
theorem someK_no (t : ByteArray) : someK false t = ⟨#[]⟩ := rfl

/-- Two numbers in memory. -/
theorem Seg.cell2 {w : World} {lo hi : Nat} {A : Option Addr} {t u : Int} (h : Seg w lo hi A [t, u]) :
    ∃ b off, A = some ⟨b, off, none⟩ ∧ w.cell? ⟨b, off, none⟩ = some (.int .i64 t) ∧ w.cell? ⟨b, off + 1, none⟩ = some (.int .i64 u) := by
  rcases h with h | ⟨b, off, rfl, h1, h2, h3⟩
  · cases h
  · exact ⟨b, off, rfl, by simpa using h3 0 (by simp), by simpa using h3 1 (by simp)⟩

set_option maxHeartbeats 1000000 in
/-- The value that a row of two numbers tells. -/
theorem val2_any (b o c : Nat) (x y : Int) (w : World) (h0 : w.cell? ⟨b, o, none⟩ = some (.int .i64 x)) (h1 : w.cell? ⟨b, o + 1, none⟩ = some (.int .i64 y)) :
    Calls Tryd.prog 62 #[.slice (some ⟨b, o, none⟩) 2 c] w fun e w' => e = .returned (.agg #[.int .i64 x, .int .i64 y]) ∧ Below w.heap.size w w' := by
  have hb0 := (Below.refl w.heap.size w).alloc (Nat.le_refl _) (.cells #[.int .i64 0, .int .i64 0] 83)
  have g0 := (hb0.cell (p := ⟨b, o, none⟩) (cell_lt h0)).trans h0
  have g1 := (hb0.cell (p := ⟨b, o + 1, none⟩) (cell_lt h1)).trans h1
  have hn := new_at w (.cells #[.int .i64 0, .int .i64 0] 83) rfl
  have n0 := (cell_of hn 0)
  have n1 := (cell_of hn 1)
  have f0 := frozen_of hn 0
  have f1 := frozen_of hn 1
  clear hn hb0
  go_enter Tryd.func62, Tryd.ntmps62
  go_wp2
  go_region
  go_wp2
  refine bodyPost_ret (v := .agg #[.int .i64 x, .int .i64 y]) (by simp [results, Tryd.results62, go_sem]) rfl ⟨rfl, ?_⟩
  exact below_drewN ((Below.refl _ _).alloc (Nat.le_refl _) _) 1

set_option maxRecDepth 100000 in
set_option maxHeartbeats 4000000 in
theorem implParseBooks_any (s : ByteArray) (w : World) (hmax : s.size ≤ 1048576) (hv : Vars w) (hT : Tab w) (hcl : (cutN 44 12 s).length ≤ 12) (q : Bool) (hq : takesK s = q) :
    Calls Tryd.prog 61 #[.string s, .string ⟨#[124]⟩, .int .i64 12, .int .i64 2, .func (.func 62) #[] #[], .func (.func 63) #[] #[]] w (RetKL q (listK q (bksA s)) w) := by
  have hc2 : ∀ x, (cutN 124 2 x).length ≤ 2 := by
    intro x
    have := Lib.splitB_length_le ⟨#[124]⟩ 0 (min 2 (x.size + 1) - 1) x
    unfold cutN
    omega
  have HT := Lib.hid hT
  have HQ := Lib.hid hq
  have HALL := Lib.hid (takesK_all (s := s))
  have HNO := Lib.hid (fun x hx h => takesK_no (s := s) (x := x) hx h)
  have HBK := Lib.hid (show bksA s = (cutN 44 12 s).map pairA from rfl)
  obtain ⟨p, hp⟩ : ∃ p, (cutN 44 12 s).all (rowB 124 2) = p := ⟨_, rfl⟩
  have HSP := Lib.hid (splitRows_any 124 12 2 s w hmax hv (by omega) (by omega) hcl hc2 p hp)
  have HPE := Lib.hid hp
  have HTWO := Lib.hid (show ∀ x, twoA x = rowB 124 2 x from fun _ => rfl)
  generalize hW : cutN 44 12 s = ws at *
  generalize hBS : bksA s = bs at *
  obtain ⟨n, hn⟩ : ∃ n, ws.length = n := ⟨_, rfl⟩
  have HN := Lib.hid hn
  obtain ⟨rows, hrows⟩ : ∃ rows, ws.map (rowA 124 2) = rows := ⟨_, rfl⟩
  have HRW := Lib.hid hrows
  rw [hn, hrows] at HSP
  rw [hn] at hcl
  have HBL := Lib.hid (show bs.length = n by rw [HBK.out, List.length_map]; exact hn)
  have HSP2 := Lib.hid HSP.out
  clear hv hT hq hc2 HSP hp hW hBS hn hrows
  cases p
  · obtain rfl : q = false := by
      rw [← HQ.out]
      have h := HPE.out
      rw [List.all_eq_false] at h
      obtain ⟨x, hx, hxn⟩ := h
      exact HNO.out x hx (by rw [HTWO.out]; simpa using hxn)
    go_enter Tryd.func61, Tryd.ntmps61
    go_wp2_with fail
    refine HSP2.out.mono ?_
    rintro e w1 ⟨v, rfl, hb1, h1, _⟩
    obtain rfl := h1 rfl
    go_wp2
    go_ret2
    exact ⟨none, 0, 0, rfl, rfl, Own.nil_, hb1⟩
  have hmk := make_books n (by omega)
  go_enter Tryd.func61, Tryd.ntmps61
  go_wp2_with fail
  refine HSP2.out.mono ?_
  rintro e w2 ⟨v, rfl, hb1, _, h2⟩
  obtain ⟨gr, hgr, rfl, hrat⟩ := h2 rfl
  have hz1 := hb1.size
  have HRAT := Lib.hid hrat
  have HP0 := Lib.hid (book_part_new w2 83 n (.int .i64 0) (.int .i64 0) (flat bs))
  have HB0 := Lib.hid ((Below.refl w2.heap.size w2).alloc (Nat.le_refl _) (.cells (madeCells #[.int .i64 0, .int .i64 0] (n * 2)) 83))
  have HT1 := Lib.hid (HT.out.below hb1 (Nat.le_refl _))
  clear h2 hrat HSP2 HT
  have HVAL : Calls Tryd.prog 90 #[.string s, .slice (some ⟨gr, 0, none⟩) n n, .func (.func 62) #[] #[], .func (.func 63) #[] #[]] w2 (RetKL q (listK q bs) w2) := by
    go_enter Tryd.func90, Tryd.ntmps90
    go_wp2
    clear hmk
    go_loopw [20] (fun i wr => ∃ k : Nat, k ≤ n ∧ i = .int .i64 k ∧ Below w2.heap.size w2 wr ∧ Part wr w2.heap.size 83 (n * 2) (k * 2) (flat bs)) (fun i _ => n - (intOf i).toNat)
    case atStart => exact ⟨0, Nat.zero_le _, rfl, HB0.out, HP0.out⟩
    case round =>
      obtain ⟨k, hk, rfl, hb, hp⟩ := hrel
      have hz := hb.size
      have HP2 := Lib.hid hp
      clear hp
      by_cases hlt : k < n
      · obtain ⟨x, hx⟩ : ∃ x, ws[k]? = some x := ⟨_, List.getElem?_eq_getElem (by rw [HN.out]; exact hlt)⟩
        have HRB := Lib.hid (show rowB 124 2 x = true from List.all_eq_true.1 HPE.out x (List.mem_of_getElem? hx))
        have hrk : rows[k]? = some (rowA 124 2 x) := by rw [← HRW.out, List.getElem?_map, hx]; rfl
        have hbk : bs[k]? = some (pairA x) := by rw [HBK.out, List.getElem?_map, hx]; rfl
        have hrl := rowA_length HRB.out
        obtain ⟨ns, hns⟩ : ∃ ns, rowA 124 2 x = ns := ⟨_, rfl⟩
        have hbk2 : bs[k]? = some ((ns.getD 0 0, ns.getD 1 0)) := by rw [hbk, pairA]; rw [← hns]; rfl
        rw [hns] at hrk hrl
        obtain ⟨t, u, hns2⟩ : ∃ t u, ns = [t, u] := by
          match ns, hrl with
          | [t, u], _ => exact ⟨t, u, rfl⟩
        subst hns2
        obtain ⟨A2, c2, hcr, hsr⟩ := (HRAT.out.below hb HRAT.out.lt (Nat.le_refl _)).row hlt hrk
        obtain ⟨b2, o2, rfl, hcl0, hcl1⟩ := hsr.cell2
        have HPR := Lib.hid (show bs[k]? = some (t, u) from hbk2)
        have hcr2 : wr.cell? ⟨gr, k, none⟩ = some (.slice (some ⟨b2, o2, none⟩) 2 c2) := hcr
        go_wp2_with fail
        refine (val2_any b2 o2 c2 t u wr hcl0 hcl1).mono ?_
        rintro e w4 ⟨rfl, hb4⟩
        have hp4 := HP2.out.keep (hb4.block _ HP2.out.lt)
        obtain ⟨v0, hv0⟩ := hp4.cell (k * 2) (by omega)
        obtain ⟨v1, hv1⟩ := hp4.cell (k * 2 + 1) (by omega)
        have hf0 := hp4.frozen (k * 2)
        have hf1 := hp4.frozen (k * 2 + 1)
        have HSB := Lib.hid (show Below w2.heap.size w2 ((w4.setCell ⟨w2.heap.size, k * 2, none⟩ (.int .i64 t)).setCell ⟨w2.heap.size, k * 2 + 1, none⟩ (.int .i64 u)) from (((hb.trans (hb4.mono hz)).setCell (Nat.le_refl _) _).setCell (Nat.le_refl _) _))
        have HPB := Lib.hid (hp4.book hlt HPR.out)
        clear hx hrk hbk hbk2 hcr hsr hns hrl hp4 hb4
        go_wp2
        go_roundw
        case rel => exact ⟨k + 1, by omega, by go_num, HSB.out, HPB.out⟩
        case measure => simp [intOf]; omega
      · obtain rfl : k = n := by omega
        have hqe : (goodK bs && (joinB 44 (bs.map bkS)).toList == s.toList) = q := by
          rw [← HQ.out]
          exact (HALL.out fun x hx => by rw [HTWO.out]; exact List.all_eq_true.1 HPE.out x hx).symm
        have HOWN := Lib.hid (show Own wr w2.heap.size wr.heap.size (some ⟨w2.heap.size, 0, none⟩) (flat bs) from (show Part wr w2.heap.size 83 (k * 2) (flat bs).length (flat bs) by rw [flat_length, HBL.out]; exact HP2.out).own (Nat.le_refl _) HP2.out.lt)
        obtain ⟨gb, hgb⟩ : ∃ gb, goodK bs = gb := ⟨_, rfl⟩
        obtain ⟨tt, htt⟩ : ∃ tt, joinB 44 (bs.map bkS) = tt := ⟨_, rfl⟩
        obtain ⟨ts, hts⟩ : ∃ ts, someK gb tt = ts := ⟨_, rfl⟩
        rw [htt] at hqe
        have HG := Lib.hid hgb
        have HTT := Lib.hid htt
        have HTS := Lib.hid hts
        have HQE := Lib.hid hqe
        have HFB := Lib.hid hb
        have hTr := HT1.out.below hb (Nat.le_refl _)
        clear hqe hgb htt hts
        cases gb
        · obtain rfl : q = false := by rw [← HQE.out, HG.out, Bool.false_and]
          go_wp2_with fail
          refine (implBooksText_any _ k _ bs _ _ _ HBL.out (by omega) HOWN.out.seg (Nat.le_refl _) _ HG.out hTr).mono ?_
          rw [HTT.out, HTS.out]
          rintro e w3 ⟨rfl, hb2⟩
          go_wp2
          go_ret2
          exact ⟨none, 0, 0, rfl, rfl, Own.nil_, HFB.out.trans (hb2.mono HFB.out.size)⟩
        · have HE := Lib.hid (show (ts.toList == s.toList) = q by rw [← HQE.out, HG.out, Bool.true_and, ← HTS.out]; rfl)
          cases q
          all_goals
            have hE := HE.out
            go_wp2_with fail
            refine (implBooksText_any _ k _ bs _ _ _ HBL.out (by omega) HOWN.out.seg (Nat.le_refl _) _ HG.out hTr).mono ?_
            rw [HTT.out, HTS.out]
            rintro e w3 ⟨rfl, hb2⟩
            go_wp2
            go_ret2
            first
              | exact ⟨none, 0, 0, rfl, rfl, Own.nil_, HFB.out.trans (hb2.mono HFB.out.size)⟩
              | exact ⟨_, k, k, rfl, HBL.out, (HOWN.out.below hb2 (Nat.le_refl _)).more (Nat.le_refl _) hb2.size, HFB.out.trans (hb2.mono HFB.out.size)⟩
  clear hmk
  go_wp2_with fail
  refine HVAL.mono ?_
  rintro e w3 ⟨A1, n1, c1, rfl, h1, h2, h3⟩
  go_wp2
  go_ret2
  exact ⟨A1, n1, c1, rfl, h1, h2.more hz1 (Nat.le_refl _), hb1.trans (h3.mono hz1)⟩
end Go.Proofs.YtbaofgbkcolmmabDoor

/-
  The written program's pieces of a text.
  Conditions: the text has at most 1048576 bytes; the library's variables read as the program's text writes them.
-/
import Derived.Test.YtjpejhpilfjheacDoorTxPSpec
import Derived.Test.YtjpejhpilfjheacDoorTxRowsI
import Derived.Test.YtjpejhpilfjheacDoorShelf3
import Derived.Shelf.Strings.Replace
namespace Go.Proofs.YtjpejhpilfjheacDoor
set_option linter.unusedVariables false
open Go.RowKit

theorem takesN_noZ {s : ByteArray} {x : ByteArray} (hx : x ∈ cutN 44 4 (exS s)) (h : threeAZ x = false) : takesNZ s = false := by
  rw [takesNZ, List.all_eq_false.2 ⟨x, hx, by simp [h]⟩, Bool.false_and]
theorem takesN_allZ {s : ByteArray} (h : ∀ x ∈ cutN 44 4 (exS s), threeAZ x = true) : takesNZ s = (goodPc (bxsAZ s) && (joinB 44 ((bxsAZ s).map bxSZ)).toList == s.toList) := by
  rw [takesNZ, List.all_eq_true.2 h, Bool.true_and]

/-- Three numbers in memory. -/
theorem Seg.cell3bZ {w : World} {lo hi : Nat} {A : Option Addr} {t u v : Int} (h : Seg w lo hi A [t, u, v]) :
    ∃ b off, A = some ⟨b, off, none⟩ ∧ w.cell? ⟨b, off, none⟩ = some (.int .i64 t) ∧ w.cell? ⟨b, off + 1, none⟩ = some (.int .i64 u) ∧ w.cell? ⟨b, off + 2, none⟩ = some (.int .i64 v) := by
  rcases h with h | ⟨b, off, rfl, h1, h2, h3⟩
  · cases h
  · exact ⟨b, off, rfl, by simpa using h3 0 (by simp), by simpa using h3 1 (by simp), by simpa using h3 2 (by simp)⟩

set_option maxHeartbeats 1000000 in
/-- The value that a row of three numbers tells. -/
theorem val3_anyZ (b o c : Nat) (x y z : Int) (w : World) (h0 : w.cell? ⟨b, o, none⟩ = some (.int .i64 x)) (h1 : w.cell? ⟨b, o + 1, none⟩ = some (.int .i64 y)) (h2 : w.cell? ⟨b, o + 2, none⟩ = some (.int .i64 z)) :
    Calls Tryd.prog 13 #[.slice (some ⟨b, o, none⟩) 3 c] w fun e w' => e = .returned (.agg #[.int .i64 x, .int .i64 y, .int .i64 z]) ∧ Below w.heap.size w w' := by
  have hb0 := (Below.refl w.heap.size w).alloc (Nat.le_refl _) (.cells #[.int .i64 0, .int .i64 0, .int .i64 0] 34)
  have g0 := (hb0.cell (p := ⟨b, o, none⟩) (cell_lt h0)).trans h0
  have g1 := (hb0.cell (p := ⟨b, o + 1, none⟩) (cell_lt h1)).trans h1
  have g2 := (hb0.cell (p := ⟨b, o + 2, none⟩) (cell_lt h2)).trans h2
  have hn := new_at w (.cells #[.int .i64 0, .int .i64 0, .int .i64 0] 34) rfl
  have n0 := (cell_of hn 0)
  have n1 := (cell_of hn 1)
  have n2 := (cell_of hn 2)
  have f0 := frozen_of hn 0
  have f1 := frozen_of hn 1
  have f2 := frozen_of hn 2
  clear hn hb0
  go_enter Tryd.func13, Tryd.ntmps13
  go_wp2
  go_region
  go_wp2
  refine bodyPost_ret (v := .agg #[.int .i64 x, .int .i64 y, .int .i64 z]) (by simp [results, Tryd.results13, go_sem]) rfl ⟨rfl, ?_⟩
  exact below_drewN ((Below.refl _ _).alloc (Nat.le_refl _) _) 1

/-- All of a sign is replaced by another. -/
theorem replace_any (s : ByteArray) (w : World) (hmax : s.size ≤ 1048576) (hv : Vars w) :
    Calls Tryd.prog 11 #[.string s, .string ⟨#[61]⟩, .string ⟨#[120]⟩] w fun e w' => e = .returned (.string (exS s)) ∧ Below w.heap.size w w' := by
  obtain ⟨_, _, k, h3⟩ := hv
  refine (Any.strings_ReplaceAll laysReplace replaceExtra s ⟨#[61]⟩ ⟨#[120]⟩ k w (by omega) h3 (by show 1 ≤ 1; omega) (by have h := Lib.countB_le ⟨#[61]⟩ (by show 1 ≤ 1; omega) s.size s (Nat.le_refl _); show s.size + Lib.countB s ⟨#[61]⟩ * 1 ≤ _; omega)).mono ?_
  rintro e w' ⟨rfl, hb⟩
  exact ⟨by rw [replaceAll_ex], hb⟩

set_option maxRecDepth 100000 in
set_option maxHeartbeats 4000000 in
theorem implParseBoxes_anyZ (s : ByteArray) (w : World) (hmax : s.size ≤ 1048576) (hv : Vars w) (hT : Tab w) (hcl : (cutN 44 4 (exS s)).length ≤ 4) (q : Bool) (hq : takesNZ s = q) :
    Calls Tryd.prog 5 #[.string s] w (RetNL q (listN q (bxsAZ s)) w) := by
  have hc2 : ∀ x, (cutN 120 3 x).length ≤ 3 := by
    intro x
    have := Lib.splitB_length_le ⟨#[120]⟩ 0 (min 3 (x.size + 1) - 1) x
    unfold cutN
    omega
  have HT := Lib.hid hT
  have HQ := Lib.hid hq
  have HALL := Lib.hid (takesN_allZ (s := s))
  have HNO := Lib.hid (fun x hx h => takesN_noZ (s := s) (x := x) hx h)
  have HBK := Lib.hid (show bxsAZ s = (cutN 44 4 (exS s)).map tripAZ from rfl)
  obtain ⟨p, hp⟩ : ∃ p, (cutN 44 4 (exS s)).all (rowB 120 3) = p := ⟨_, rfl⟩
  have hREP := replace_any s w hmax hv
  have HREP := Lib.hid hREP
  have HSP := Lib.hid (fun W (hW : Below w.heap.size w W) => splitRows_any 120 4 3 (exS s) W (by rw [exS_size]; exact hmax) (hv.below hW (Nat.le_refl _)) (by omega) (by omega) hcl hc2 p hp)
  clear hREP
  have HPE := Lib.hid hp
  have HTWO := Lib.hid (show ∀ x, threeAZ x = rowB 120 3 x from fun _ => rfl)
  generalize hW : cutN 44 4 (exS s) = ws at *
  generalize hBS : bxsAZ s = bs at *
  obtain ⟨n, hn⟩ : ∃ n, ws.length = n := ⟨_, rfl⟩
  have HN := Lib.hid hn
  obtain ⟨rows, hrows⟩ : ∃ rows, ws.map (rowA 120 3) = rows := ⟨_, rfl⟩
  have HRW := Lib.hid hrows
  rw [hn, hrows] at HSP
  rw [hn] at hcl
  have HBL := Lib.hid (show bs.length = n by rw [HBK.out, List.length_map]; exact hn)
  have HSP2 := Lib.hid HSP.out
  clear hv hT hq hc2 HSP hp hW hBS hn hrows
  cases p
  · obtain rfl : q = false := by
      rw [← HQ.out]
      have h := HPE.out
      rw [List.all_eq_false] at h
      obtain ⟨x, hx, hxn⟩ := h
      exact HNO.out x hx (by rw [HTWO.out]; simpa using hxn)
    go_enter Tryd.func5, Tryd.ntmps5
    go_wp2_with fail
    refine HREP.out.mono ?_
    rintro e w0 ⟨rfl, hb0⟩
    go_wp2_with fail
    refine (HSP2.out w0 hb0).mono ?_
    rintro e w1 ⟨v, rfl, hb1, h1, _⟩
    obtain rfl := h1 rfl
    go_wp2
    go_ret2
    exact ⟨none, 0, 0, rfl, rfl, Own.nil_, hb0.trans (hb1.mono hb0.size)⟩
  have hmk := make_pieces n (by omega)
  go_enter Tryd.func5, Tryd.ntmps5
  go_wp2_with fail
  refine HREP.out.mono ?_
  rintro e w0 ⟨rfl, hb0⟩
  go_wp2_with fail
  refine (HSP2.out w0 hb0).mono ?_
  rintro e w2 ⟨v, rfl, hb1', _, h2⟩
  obtain ⟨gr, hgr, rfl, hrat⟩ := h2 rfl
  have hb1 : Below w.heap.size w w2 := hb0.trans (hb1'.mono hb0.size)
  have hz1 := hb1.size
  have HRAT := Lib.hid hrat
  have HP0 := Lib.hid (piece_part_new w2 34 n (.int .i64 0) (.int .i64 0) (.int .i64 0) (flat3 bs))
  have HB0 := Lib.hid ((Below.refl w2.heap.size w2).alloc (Nat.le_refl _) (.cells (madeCells #[.int .i64 0, .int .i64 0, .int .i64 0] (n * 3)) 34))
  have HT1 := Lib.hid (HT.out.below hb1 (Nat.le_refl _))
  clear h2 hrat HSP2 HT HREP hb1' hb0
  have HVAL : Calls Tryd.prog 12 #[.string s, .slice (some ⟨gr, 0, none⟩) n n, .func (.func 13) #[] #[], .func (.func 14) #[] #[]] w2 (RetNL q (listN q bs) w2) := by
    go_enter Tryd.func12, Tryd.ntmps12
    go_wp2
    clear hmk
    go_loopw [20] (fun i wr => ∃ k : Nat, k ≤ n ∧ i = .int .i64 k ∧ Below w2.heap.size w2 wr ∧ Part wr w2.heap.size 34 (n * 3) (k * 3) (flat3 bs)) (fun i _ => n - (intOf i).toNat)
    case atStart => exact ⟨0, Nat.zero_le _, rfl, HB0.out, HP0.out⟩
    case round =>
      obtain ⟨k, hk, rfl, hb, hp⟩ := hrel
      have hz := hb.size
      have HP2 := Lib.hid hp
      clear hp
      by_cases hlt : k < n
      · obtain ⟨x, hx⟩ : ∃ x, ws[k]? = some x := ⟨_, List.getElem?_eq_getElem (by rw [HN.out]; exact hlt)⟩
        have HRB := Lib.hid (show rowB 120 3 x = true from List.all_eq_true.1 HPE.out x (List.mem_of_getElem? hx))
        have hrk : rows[k]? = some (rowA 120 3 x) := by rw [← HRW.out, List.getElem?_map, hx]; rfl
        have hbk : bs[k]? = some (tripAZ x) := by rw [HBK.out, List.getElem?_map, hx]; rfl
        have hrl := rowA_length HRB.out
        obtain ⟨ns, hns⟩ : ∃ ns, rowA 120 3 x = ns := ⟨_, rfl⟩
        have hbk2 : bs[k]? = some ((ns.getD 0 0, ns.getD 1 0, ns.getD 2 0)) := by rw [hbk, tripAZ]; rw [← hns]; rfl
        rw [hns] at hrk hrl
        obtain ⟨x', y', z', hns2⟩ : ∃ x' y' z', ns = [x', y', z'] := by
          match ns, hrl with
          | [x', y', z'], _ => exact ⟨x', y', z', rfl⟩
        subst hns2
        obtain ⟨A2, c2, hcr, hsr⟩ := (HRAT.out.below hb HRAT.out.lt (Nat.le_refl _)).row hlt hrk
        obtain ⟨b2, o2, rfl, hcl0, hcl1, hcl2⟩ := hsr.cell3bZ
        have HPR := Lib.hid (show bs[k]? = some (x', y', z') from hbk2)
        have hcr2 : wr.cell? ⟨gr, k, none⟩ = some (.slice (some ⟨b2, o2, none⟩) 3 c2) := hcr
        go_wp2_with fail
        refine (val3_anyZ b2 o2 c2 x' y' z' wr hcl0 hcl1 hcl2).mono ?_
        rintro e w4 ⟨rfl, hb4⟩
        have hp4 := HP2.out.keep (hb4.block _ HP2.out.lt)
        obtain ⟨v0, hv0⟩ := hp4.cell (k * 3) (by omega)
        obtain ⟨v1, hv1⟩ := hp4.cell (k * 3 + 1) (by omega)
        obtain ⟨v2, hv2⟩ := hp4.cell (k * 3 + 2) (by omega)
        have hf0 := hp4.frozen (k * 3)
        have hf1 := hp4.frozen (k * 3 + 1)
        have hf2 := hp4.frozen (k * 3 + 2)
        have HSB := Lib.hid (show Below w2.heap.size w2 (((w4.setCell ⟨w2.heap.size, k * 3, none⟩ (.int .i64 x')).setCell ⟨w2.heap.size, k * 3 + 1, none⟩ (.int .i64 y')).setCell ⟨w2.heap.size, k * 3 + 2, none⟩ (.int .i64 z')) from ((((hb.trans (hb4.mono hz)).setCell (Nat.le_refl _) _).setCell (Nat.le_refl _) _).setCell (Nat.le_refl _) _))
        have HPB := Lib.hid (hp4.tri hlt HPR.out)
        clear hx hrk hbk hbk2 hcr hsr hns hrl hp4 hb4
        go_wp2
        go_roundw
        case rel => exact ⟨k + 1, by omega, by go_num, HSB.out, HPB.out⟩
        case measure => simp [intOf]; omega
      · obtain rfl : k = n := by omega
        have hqe : (goodPc bs && (joinB 44 (bs.map bxSZ)).toList == s.toList) = q := by
          rw [← HQ.out]
          exact (HALL.out fun x hx => by rw [HTWO.out]; exact List.all_eq_true.1 HPE.out x hx).symm
        have HOWN := Lib.hid (show Own wr w2.heap.size wr.heap.size (some ⟨w2.heap.size, 0, none⟩) (flat3 bs) from (show Part wr w2.heap.size 34 (k * 3) (flat3 bs).length (flat3 bs) by rw [flat3_length, HBL.out]; exact HP2.out).own (Nat.le_refl _) HP2.out.lt)
        obtain ⟨gb, hgb⟩ : ∃ gb, goodPc bs = gb := ⟨_, rfl⟩
        obtain ⟨tt, htt⟩ : ∃ tt, joinB 44 (bs.map bxSZ) = tt := ⟨_, rfl⟩
        obtain ⟨ts, hts⟩ : ∃ ts, someKZ gb tt = ts := ⟨_, rfl⟩
        rw [htt] at hqe
        have HG := Lib.hid hgb
        have HTT := Lib.hid htt
        have HTS := Lib.hid hts
        have HQE := Lib.hid hqe
        have HFB := Lib.hid hb
        have hTr := HT1.out.below hb (Nat.le_refl _)
        clear hqe hgb htt hts
        cases gb
        · obtain rfl : q = false := by rw [← HQE.out, HG.out, Bool.false_and]
          go_wp2_with fail
          refine (implBoxesText_anyZ _ k _ bs _ _ _ HBL.out (by omega) HOWN.out.seg (Nat.le_refl _) _ HG.out hTr).mono ?_
          rw [HTT.out, HTS.out]
          rintro e w3 ⟨rfl, hb2⟩
          go_wp2
          go_ret2
          exact ⟨none, 0, 0, rfl, rfl, Own.nil_, HFB.out.trans (hb2.mono HFB.out.size)⟩
        · have HE := Lib.hid (show (ts.toList == s.toList) = q by rw [← HQE.out, HG.out, Bool.true_and, ← HTS.out]; rfl)
          cases q
          all_goals
            have hE := HE.out
            go_wp2_with fail
            refine (implBoxesText_anyZ _ k _ bs _ _ _ HBL.out (by omega) HOWN.out.seg (Nat.le_refl _) _ HG.out hTr).mono ?_
            rw [HTT.out, HTS.out]
            rintro e w3 ⟨rfl, hb2⟩
            go_wp2
            go_ret2
            first
              | exact ⟨none, 0, 0, rfl, rfl, Own.nil_, HFB.out.trans (hb2.mono HFB.out.size)⟩
              | exact ⟨_, k, k, rfl, HBL.out, (HOWN.out.below hb2 (Nat.le_refl _)).more (Nat.le_refl _) hb2.size, HFB.out.trans (hb2.mono HFB.out.size)⟩
  clear hmk
  go_wp2_with fail
  refine HVAL.mono ?_
  rintro e w3 ⟨A1, n1, c1, rfl, h1, h2, h3⟩
  go_wp2
  go_ret2
  exact ⟨A1, n1, c1, rfl, h1, h2.more hz1 (Nat.le_refl _), hb1.trans (h3.mono hz1)⟩
end Go.Proofs.YtjpejhpilfjheacDoor

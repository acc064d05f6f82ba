/-
  The puzzle from which clues are taken out that are not wanted, by both programs.
  Conditions: none.
-/
import Derived.Test.YtoheoojpmndhoaaPzH
import Derived.Test.YtoheoojpmndhoaaPzY
import Derived.Test.YtoheoojpmndhoaaAppendFlat4
import Derived.Lib.SliceRun
namespace Go.Proofs.Ytoheoojpmndhoaa
set_option linter.unusedVariables false
set_option linter.unusedSimpArgs false
open Go.RowKit

set_option maxHeartbeats 1000000 in
theorem cloneC_any (A : Option Addr) (n c : Nat) (cs : List Clu) (lo hi : Nat) (w : World) (hn : cs.length = n) (hlen : n ≤ 1048576) (hs : Seg w lo hi A (flat4 cs)) (hB : hi ≤ w.heap.size) :
    Calls Try.prog 87 #[.slice A n c] w (RetCl cs w) := by
  have hnil : ∀ (w : World) (a : Option Addr) (n c n' c' : Nat), (binOp .eql 33 (.slice a n c) (.slice none n' c')).run Try.prog w = .ok (.bool a.isNone) w := fun w a n c n' c' => Lib.run_eql_slice_nil w _ _ a n c n' c' Try.underlying33
  cases A with
  | none =>
    have h0 : cs = [] := by
      rcases hs with h | ⟨b, off, e, _⟩
      · cases cs with
        | nil => rfl
        | cons x xs => obtain ⟨a, b, d, e⟩ := x; simp [flat4] at h
      · cases e
    subst h0
    clear hs
    go_enter Try.func87, Try.ntmps87
    go_wp2
    go_ret
    exact ⟨none, 0, 0, rfl, rfl, Nat.le_refl _, .inl rfl, Below.refl _ _⟩
  | some a =>
    obtain ⟨i0, hi0, hz0, hz1, hz2⟩ := info_parts clue_infoI
    have HN := Lib.hid hn
    have hlit := World.ownsRow_lit (base := w.heap.size) (e := 25) (size := 4) w #[] 0 (Nat.le_refl _) (Nat.zero_le _) rfl
    have hs1 := hs.below ((Below.refl w.heap.size w).alloc (Nat.le_refl _) (.cells #[] 25)) hB
    have HLIT := Lib.hid hlit
    have HSEG := Lib.hid hs1
    clear hn hlit hs1
    go_enter Try.func87, Try.ntmps87
    go_wp2_with (at_builtin; refine wpList_append_flat4 _ rfl _ _ 33 rfl w.heap.size 25 i0 Try.underlying33 hi0 hz0 hz1 hz2 _ 0 _ rfl HLIT.out (some a) n c cs lo hi rfl HN.out HSEG.out (by omega) (by simp) ?_; intro v' w2 hown2 hgrow2; have hown3 : w2.ownsRow w.heap.size 25 4 v' n (vals4 cs) := (by simpa using hown2); clear hown2; obtain ⟨A2, c2, rfl, f1, f2, f3⟩ := seg_of_row4 hown3)
    go_ret
    exact ⟨A2, n, c2, rfl, HN.out, f2, f3, ((Below.refl w.heap.size w).alloc (Nat.le_refl _) _).grown hgrow2 (by simp) (fun g hg => (HLIT.out.lt g hg).1)⟩

set_option maxRecDepth 100000 in
set_option maxHeartbeats 8000000 in
theorem spec_HarderPuzzle (t : Int) (A : Option Addr) (n c : Nat) (cs : List Clu) (lo hi : Nat) (w : World) (hn : cs.length = n) (hlen : n ≤ 1048576) (hnc : n ≤ c) (hs : Seg w lo hi A (flat4 cs)) (hB : hi ≤ w.heap.size) (q : Bool) (hq : slvB t cs = q) :
    Calls Try.prog 57 #[pzV t A n c] w (RetU q (intU q t) (listU q (hardF t.toNat cs 0)) w) := by
  obtain ⟨W, hW⟩ : ∃ W, (w.alloc (.cells #[.int .i64 t, .slice A n c] 35)).alloc (.cells #[.int .i64 0, .slice none 0 0] 35) = W := ⟨_, rfl⟩
  have z0 : Below w.heap.size w W := by rw [← hW]; exact ((Below.refl _ _).alloc (Nat.le_refl _) _).alloc (by simp) _
  have p0 : W.heap[w.heap.size]? = some (.cells #[.int .i64 t, .slice A n c] 35 (0, 0)) := by rw [← hW]; exact (alloc_old _ (by simp) _).trans (new_at _ _ rfl)
  have r0 : W.heap[w.heap.size + 1]? = some (.cells #[.int .i64 0, .slice none 0 0] 35 (0, 0)) := by rw [← hW]; exact new_at _ _ (by simp)
  have hsz : w.heap.size + 1 < W.heap.size := heap_lt r0
  have sW := hs.below z0 hB
  have HW := Lib.hid hW
  clear hW
  obtain ⟨g, hg⟩ : ∃ g, puzB t cs = g := ⟨_, rfl⟩
  have HG := Lib.hid hg
  have HN := Lib.hid hn
  have HSQ := Lib.hid hq
  clear hg hn hq
  have q0 := cell_of p0 0
  have q1 := cell_of p0 1
  simp only [List.getElem?_toArray, List.getElem?_cons_zero, List.getElem?_cons_succ] at q0 q1
  go_enter Try.func57, Try.ntmps57
  go_wp2_with fail
  rw [HW.out]
  refine (pzGood_Q t A n c cs lo hi _ HN.out hlen sW (by omega) g HG.out).mono ?_
  rintro e v0 ⟨rfl, hb0⟩
  have hz0 := hb0.size
  have y0 := z0.trans (hb0.mono z0.size)
  have p_0 := (hb0.block _ (by omega)).trans p0
  have r_0 := (hb0.block _ (by omega)).trans r0
  have s_0 := sW.below hb0 (by omega)
  clear q0 q1 p0 r0
  have q0 := cell_of p_0 0
  have q1 := cell_of p_0 1
  have c0 := cell_of r_0 0
  have c1 := cell_of r_0 1
  have f0 := frozen_of r_0 0
  have f1 := frozen_of r_0 1
  simp only [List.getElem?_toArray, List.getElem?_cons_zero, List.getElem?_cons_succ] at q0 q1 c0 c1
  cases g
  · go_wp2_with fail
    obtain rfl : q = false := by rw [← HSQ.out, slvB]; simp [HG.out]
    refine bodyPost_ret (v := .tuple #[pzV 0 none 0 0, .bool false]) (by simp [results, Try.results57, go_sem, c0, c1]) rfl ⟨none, 0, 0, rfl, rfl, .inl rfl, ?_⟩
    exact (y0.setCell (p := ⟨w.heap.size + 1, 0, none⟩) (by simp) _).setCell (p := ⟨w.heap.size + 1, 1, none⟩) (by simp) _
  obtain ⟨⟨t1, t2⟩, h6, hcl⟩ := puzB_true.1 HG.out
  obtain ⟨N, rfl⟩ : ∃ N : Nat, t = (N : Int) := ⟨t.toNat, by omega⟩
  have hN : N = 2 ∨ N = 3 ∨ N = 4 := by omega
  have hn6 : n ≤ 6 := by have := HN.out; omega
  obtain ⟨b, hb⟩ : ∃ b, oneS N cs = b := ⟨_, rfl⟩
  have HB := Lib.hid hb
  clear hb
  go_wp2_with fail
  refine (pzSolved_any A n c cs N lo hi _ hN HN.out hlen hcl s_0 (by omega) b HB.out).mono ?_
  rintro e v1 ⟨rfl, hb1⟩
  have hz1 := hb1.size
  have y1 := y0.trans (hb1.mono y0.size)
  have p_1 := (hb1.block _ (by omega)).trans p_0
  have r_1 := (hb1.block _ (by omega)).trans r_0
  have s_1 := s_0.below hb1 (by omega)
  have hv1 : w.heap.size < v1.heap.size := by omega
  have hv2 : w.heap.size + 1 < v1.heap.size := by omega
  clear q0 q1 c0 c1 f0 f1 p_0 r_0
  have q0 := cell_of p_1 0
  have q1 := cell_of p_1 1
  have c0 := cell_of r_1 0
  have c1 := cell_of r_1 1
  have f0 := frozen_of r_1 0
  have f1 := frozen_of r_1 1
  simp only [List.getElem?_toArray, List.getElem?_cons_zero, List.getElem?_cons_succ] at q0 q1 c0 c1
  have hq2 : q = b := by rw [← HSQ.out, slvB, HG.out, Bool.true_and]; exact HB.out
  subst hq2
  cases q
  · go_wp2_with fail
    refine bodyPost_ret (v := .tuple #[pzV 0 none 0 0, .bool false]) (by simp [results, Try.results57, go_sem, c0, c1]) rfl ⟨none, 0, 0, rfl, rfl, .inl rfl, ?_⟩
    exact (y1.setCell (p := ⟨w.heap.size + 1, 0, none⟩) (by simp) _).setCell (p := ⟨w.heap.size + 1, 1, none⟩) (by simp) _
  have far : ∀ (V : World) (v v' : Value) (x : Nat), x ≠ w.heap.size + 1 → ((V.setCell ⟨w.heap.size + 1, 0, none⟩ v).setCell ⟨w.heap.size + 1, 1, none⟩ v').heap[x]? = V.heap[x]? := fun V v v' x hx => (set_far _ hx _).trans (set_far _ hx _)
  have FAR := Lib.hid far
  clear far
  obtain ⟨i0, hi0, hy0, hy1, hy2⟩ := info_parts clue_infoI
  have hal := (Below.refl v1.heap.size v1).alloc (Nat.le_refl _) (.cells #[] 25)
  have HLIT := Lib.hid (World.ownsRow_lit (base := v1.heap.size) (e := 25) (size := 4) v1 #[] 0 (Nat.le_refl _) (Nat.zero_le _) rfl)
  have HSEG := Lib.hid (s_1.below hal (by omega))
  go_wp2_with (at_builtin; refine wpList_append_flat4 _ rfl _ _ 33 rfl v1.heap.size 25 i0 Try.underlying33 hi0 hy0 hy1 hy2 _ 0 _ rfl HLIT.out A n c cs lo hi rfl HN.out HSEG.out (by omega) (by simp) ?_; intro v' w2 hown2 hgrow2; have hown3 : w2.ownsRow v1.heap.size 25 4 v' n (vals4 cs) := (by simpa using hown2); clear hown2; obtain ⟨A1, n1, rfl, g1, g2, g3⟩ := seg_of_row4 hown3; have HB2 := Lib.hid (hal.grown hgrow2 (by simp) (fun g hg => (HLIT.out.lt g hg).1)); have G3 := Lib.hid g3; clear hown3 hgrow2 g3)
  clear q0 q1 c0 c1 f0 f1
  go_loopw [4, 5, 6] (fun o i _ wr => ∃ (ds : List Clu) (Ad : Option Addr) (nd cd k : Nat), o = .slice Ad nd cd ∧ i = .int .i64 (k : Int) ∧ ds.length = nd ∧ nd ≤ cd ∧ nd ≤ n ∧ k ≤ nd ∧ (∀ c ∈ ds, clueB (N : Int) c = true) ∧ hardF N ds k = hardF N cs 0 ∧ Own wr v1.heap.size wr.heap.size Ad (flat4 ds) ∧ Below v1.heap.size v1 wr) (fun o i _ _ => lenS o - (intOf i).toNat)
  case atStart => exact ⟨cs, A1, n, n1, 0, rfl, rfl, HN.out, by omega, Nat.le_refl _, Nat.zero_le _, hcl, rfl, G3.out, HB2.out⟩
  case round =>
    rename World => wr
    obtain ⟨ds, Ad, nd, cd, k, rfl, rfl, hdl, hnc2, hnn, hk, hcd, hh, hod, hbr⟩ := hrel
    have hzr := hbr.size
    have HDL := Lib.hid hdl
    have HH := Lib.hid hh
    have HOD := Lib.hid hod
    have HCD := Lib.hid hcd
    clear hdl hh hod hcd
    have p_2 := (hbr.block _ (by omega)).trans p_1
    have r_2 := (hbr.block _ (by omega)).trans r_1
    by_cases hlt : k < nd
    · have hlt' : decide ((k : Int) < (nd : Int)) = true := decide_eq_true (by omega)
      go_wp2_with fail
      refine (pzWithout_any Ad nd cd k ds _ _ _ HDL.out (by omega) hnc2 hlt HOD.out.seg (Nat.le_refl _)).mono ?_
      rintro e xa ⟨A2, n2, c2, rfl, hl2, hnc3, ho2, hba⟩
      have hza := hba.size
      have hp2 := dropC_length (cs := ds) (k := k) (by have := HDL.out; omega)
      have hn2 : n2 + 1 = nd := by have := HDL.out; omega
      have p_3 := (hba.block _ (by omega)).trans p_2
      have q0 := cell_of p_3 0
      simp only [List.getElem?_toArray, List.getElem?_cons_zero] at q0
      have HCL := Lib.hid (dropC_clues (k := k) HCD.out)
      have HO2 := Lib.hid ho2
      have HL2 := Lib.hid hl2
      obtain ⟨b, hb⟩ : ∃ b, oneS N (dropC ds k) = b := ⟨_, rfl⟩
      have HB3 := Lib.hid hb
      clear hb ho2 hl2 hp2
      go_wp2_with fail
      refine (pzSolved_any A2 n2 c2 (dropC ds k) N _ _ _ hN HL2.out (by omega) HCL.out HO2.out.seg (Nat.le_refl _) b HB3.out).mono ?_
      rintro e xb ⟨rfl, hbb⟩
      have hzb := hbb.size
      have hBB := Lib.hid (hbr.trans ((hba.trans (hbb.mono hza)).mono hzr))
      cases b
      · have hx := hardF_no (N := N) (k := k) (by have := HDL.out; omega) HB3.out
        have HNX := Lib.hid (hx.symm.trans HH.out)
        have HOD2 := Lib.hid (((HOD.out.below hba (Nat.le_refl _)).more (Nat.le_refl _) hza).below hbb (Nat.le_refl _))
        clear hx
        go_wp2
        go_roundw
        case rel => exact ⟨ds, Ad, nd, cd, k + 1, rfl, by go_num, HDL.out, hnc2, hnn, by omega, HCD.out, HNX.out, HOD2.out.more (Nat.le_refl _) hzb, hBB.out⟩
        case measure => simp [intOf, lenS]; omega
      · have hx := hardF_yes (N := N) (k := k) (by have := HDL.out; omega) HB3.out
        have HNX := Lib.hid (hx.symm.trans HH.out)
        clear hx
        go_wp2
        go_roundw
        case rel => exact ⟨dropC ds k, A2, n2, c2, k, rfl, rfl, HL2.out, hnc3, by omega, by omega, HCL.out, HNX.out, (HO2.out.below hbb (Nat.le_refl _)).more (by omega) hzb, hBB.out⟩
        case measure => simp [intOf, lenS]; omega
    · obtain ⟨hkk⟩ : Nonempty (k = nd) := ⟨by omega⟩
      have hlt' : decide ((k : Int) < (nd : Int)) = false := decide_eq_false (by omega)
      have YR := y1.trans (hbr.mono y1.size)
      have q0 := cell_of p_2 0
      have q1 := cell_of p_2 1
      have c0 := cell_of r_2 0
      have c1 := cell_of r_2 1
      have f0 := frozen_of r_2 0
      have f1 := frozen_of r_2 1
      simp only [List.getElem?_toArray, List.getElem?_cons_zero, List.getElem?_cons_succ] at q0 q1 c0 c1
      have ed : ds = hardF N cs 0 := by rw [← HH.out]; exact (hardF_end (by have := HDL.out; omega)).symm
      go_wp2
      have hl4 : (listU true (hardF ((N : Int)).toNat cs 0)).length = nd := by show (hardF N cs 0).length = nd; rw [← ed]; exact HDL.out
      refine bodyPost_ret (v := .tuple #[pzV (N : Int) Ad nd cd, .bool true]) (by simp [results, Try.results57, go_sem, c0, c1]) rfl ⟨Ad, nd, cd, rfl, hl4, ?_, (YR.setCell (p := ⟨w.heap.size + 1, 0, none⟩) (by simp) _).setCell (p := ⟨w.heap.size + 1, 1, none⟩) (by simp) _⟩
      simp only [World.size_setCell]
      have ho5 := (HOD.out.keep (w' := (wr.setCell ⟨w.heap.size + 1, 0, none⟩ (.int .i64 (N : Int))).setCell ⟨w.heap.size + 1, 1, none⟩ (.slice Ad nd cd)) fun b hb1 hb2 => FAR.out _ _ _ _ (by omega)).more (show w.heap.size ≤ v1.heap.size by omega) (Nat.le_refl _)
      show Own _ _ _ _ (flat4 (hardF N cs 0))
      rw [← ed]
      exact ho5

set_option maxRecDepth 100000 in
set_option maxHeartbeats 8000000 in
theorem impl_HarderPuzzle (t : Int) (A : Option Addr) (n c : Nat) (cs : List Clu) (lo hi : Nat) (w : World) (hn : cs.length = n) (hlen : n ≤ 1048576) (hnc : n ≤ c) (hs : Seg w lo hi A (flat4 cs)) (hB : hi ≤ w.heap.size) (q : Bool) (hq : slvB t cs = q) :
    Calls Try.prog 58 #[pzV t A n c] w (RetU q (intU q t) (listU q (hardF t.toNat cs 0)) w) := by
  obtain ⟨W, hW⟩ : ∃ W, (w.alloc (.cells #[.int .i64 t, .slice A n c] 35)).alloc (.cells #[.int .i64 0, .slice none 0 0] 35) = W := ⟨_, rfl⟩
  have z0 : Below w.heap.size w W := by rw [← hW]; exact ((Below.refl _ _).alloc (Nat.le_refl _) _).alloc (by simp) _
  have p0 : W.heap[w.heap.size]? = some (.cells #[.int .i64 t, .slice A n c] 35 (0, 0)) := by rw [← hW]; exact (alloc_old _ (by simp) _).trans (new_at _ _ rfl)
  have r0 : W.heap[w.heap.size + 1]? = some (.cells #[.int .i64 0, .slice none 0 0] 35 (0, 0)) := by rw [← hW]; exact new_at _ _ (by simp)
  have hsz : w.heap.size + 1 < W.heap.size := heap_lt r0
  have sW := hs.below z0 hB
  have HW := Lib.hid hW
  clear hW
  obtain ⟨g, hg⟩ : ∃ g, puzB t cs = g := ⟨_, rfl⟩
  have HG := Lib.hid hg
  have HN := Lib.hid hn
  have HSQ := Lib.hid hq
  clear hg hn hq
  have q0 := cell_of p0 0
  have q1 := cell_of p0 1
  simp only [List.getElem?_toArray, List.getElem?_cons_zero, List.getElem?_cons_succ] at q0 q1
  go_enter Try.func58, Try.ntmps58
  go_wp2_with fail
  rw [HW.out]
  refine (impl_IsPuzzleQ t A n c cs lo hi _ HN.out hlen sW (by omega) g HG.out).mono ?_
  rintro e v0 ⟨rfl, hb0⟩
  have hz0 := hb0.size
  have y0 := z0.trans (hb0.mono z0.size)
  have p_0 := (hb0.block _ (by omega)).trans p0
  have r_0 := (hb0.block _ (by omega)).trans r0
  have s_0 := sW.below hb0 (by omega)
  clear q0 q1 p0 r0
  have q0 := cell_of p_0 0
  have q1 := cell_of p_0 1
  have c0 := cell_of r_0 0
  have c1 := cell_of r_0 1
  have f0 := frozen_of r_0 0
  have f1 := frozen_of r_0 1
  simp only [List.getElem?_toArray, List.getElem?_cons_zero, List.getElem?_cons_succ] at q0 q1 c0 c1
  cases g
  · go_wp2_with fail
    obtain rfl : q = false := by rw [← HSQ.out, slvB]; simp [HG.out]
    refine bodyPost_ret (v := .tuple #[pzV 0 none 0 0, .bool false]) (by simp [results, Try.results58, go_sem, c0, c1]) rfl ⟨none, 0, 0, rfl, rfl, .inl rfl, ?_⟩
    exact (y0.setCell (p := ⟨w.heap.size + 1, 0, none⟩) (by simp) _).setCell (p := ⟨w.heap.size + 1, 1, none⟩) (by simp) _
  obtain ⟨⟨t1, t2⟩, h6, hcl⟩ := puzB_true.1 HG.out
  obtain ⟨N, rfl⟩ : ∃ N : Nat, t = (N : Int) := ⟨t.toNat, by omega⟩
  have hN : N = 2 ∨ N = 3 ∨ N = 4 := by omega
  have hn6 : n ≤ 6 := by have := HN.out; omega
  obtain ⟨b, hb⟩ : ∃ b, oneS N cs = b := ⟨_, rfl⟩
  have HB := Lib.hid hb
  clear hb
  go_wp2_with fail
  refine (isSolved_any A n c cs N lo hi _ hN HN.out hlen hcl s_0 (by omega) b HB.out).mono ?_
  rintro e v1 ⟨rfl, hb1⟩
  have hz1 := hb1.size
  have y1 := y0.trans (hb1.mono y0.size)
  have p_1 := (hb1.block _ (by omega)).trans p_0
  have r_1 := (hb1.block _ (by omega)).trans r_0
  have s_1 := s_0.below hb1 (by omega)
  have hv1 : w.heap.size < v1.heap.size := by omega
  have hv2 : w.heap.size + 1 < v1.heap.size := by omega
  clear q0 q1 c0 c1 f0 f1 p_0 r_0
  have q0 := cell_of p_1 0
  have q1 := cell_of p_1 1
  have c0 := cell_of r_1 0
  have c1 := cell_of r_1 1
  have f0 := frozen_of r_1 0
  have f1 := frozen_of r_1 1
  simp only [List.getElem?_toArray, List.getElem?_cons_zero, List.getElem?_cons_succ] at q0 q1 c0 c1
  have hq2 : q = b := by rw [← HSQ.out, slvB, HG.out, Bool.true_and]; exact HB.out
  subst hq2
  cases q
  · go_wp2_with fail
    refine bodyPost_ret (v := .tuple #[pzV 0 none 0 0, .bool false]) (by simp [results, Try.results58, go_sem, c0, c1]) rfl ⟨none, 0, 0, rfl, rfl, .inl rfl, ?_⟩
    exact (y1.setCell (p := ⟨w.heap.size + 1, 0, none⟩) (by simp) _).setCell (p := ⟨w.heap.size + 1, 1, none⟩) (by simp) _
  have far : ∀ (V : World) (v v' : Value) (x : Nat), x ≠ w.heap.size + 1 → ((V.setCell ⟨w.heap.size + 1, 0, none⟩ v).setCell ⟨w.heap.size + 1, 1, none⟩ v').heap[x]? = V.heap[x]? := fun V v v' x hx => (set_far _ hx _).trans (set_far _ hx _)
  have FAR := Lib.hid far
  clear far
  go_upto_region 3 with (fail)
  go_cut [4] (fun s4 wx => ∃ (A1 : Option Addr) (c1 g1 lo1 hi1 : Nat), s4 = .pointer (some ⟨g1, 0, none⟩) ∧ n ≤ c1 ∧ v1.heap.size ≤ lo1 ∧ hi1 ≤ wx.heap.size ∧ (g1 < lo1 ∨ hi1 ≤ g1) ∧ v1.heap.size ≤ g1 ∧ Own wx lo1 hi1 A1 (flat4 cs) ∧ wx.heap[g1]? = some (.cells #[.int .i64 (N : Int), .slice A1 n c1] 35 (0, 0)) ∧ Below v1.heap.size v1 wx)
  case first =>
    clear q0 q1 c0 c1 f0 f1
    refine wp_region_held_drew (S := (fun wq => wq.heap[w.heap.size]? = some (.cells #[.int .i64 (N : Int), .slice A n c] 35 (0, 0)))) (by kernel_rfl) p_1 (fun hH0 => ?_)
    refine wpAnyH_take (i := 0) (v := ?_) (ops_at rfl) (by kernel_rfl) (by kernel_rfl) (by kernel_rfl) (fun _ _ _ h => h) (Or.inl ⟨by rfl, ?ya0⟩) (by assumption) ?na0
    case ya0 => (intro wS hSw; have q0 := cell_of hSw 0; have q1 := cell_of hSw 1; go_simp; try rfl)
    try simp only [Act.put, List.setIfInBounds_toArray, List.set_cons_zero, List.set_cons_succ]
    refine wpAnyH_take (i := 1) (v := ?_) (ops_at rfl) (by kernel_rfl) (by kernel_rfl) (by kernel_rfl) (fun _ _ _ h => h) (Or.inl ⟨by rfl, ?ya1⟩) (by assumption) ?na1
    case ya1 => (intro wS hSw; have q0 := cell_of hSw 0; have q1 := cell_of hSw 1; go_simp; try rfl)
    try simp only [Act.put, List.setIfInBounds_toArray, List.set_cons_zero, List.set_cons_succ]
    refine wpAnyH_take (i := 2) (v := ?_) (ops_at rfl) (by kernel_rfl) (by kernel_rfl) (by kernel_rfl) (fun _ _ _ h => h) (Or.inl ⟨by rfl, ?ya2⟩) (by assumption) ?na2
    case ya2 => (intro wS hSw; have q0 := cell_of hSw 0; have q1 := cell_of hSw 1; go_simp; try rfl)
    try simp only [Act.put, List.setIfInBounds_toArray, List.set_cons_zero, List.set_cons_succ]
    refine wpAnyH_take (i := 3) (v := ?_) (ops_at rfl) (by kernel_rfl) (by kernel_rfl) (by kernel_rfl) (fun _ _ _ h => h) (Or.inl ⟨by rfl, ?ya3⟩) (by assumption) ?na3
    case ya3 => (intro wS hSw; have q0 := cell_of hSw 0; have q1 := cell_of hSw 1; go_simp; try rfl)
    try simp only [Act.put, List.setIfInBounds_toArray, List.set_cons_zero, List.set_cons_succ]
    obtain ⟨u0, hu0⟩ : ∃ u, v1.drew = u := ⟨_, rfl⟩
    have hd0 : Below v1.heap.size v1 u0 := by rw [← hu0]; exact (Below.refl _ _).drew
    rw [hu0] at hH0 ⊢
    clear hu0
    have hzd0 := hd0.size
    have s_2 := s_1.below hd0 (by omega)
    refine wpAnyH_ready (rs := [4, 6]) (by kernel_rfl) (by simp) ?_
    refine AllReadyH.cons (ops_at rfl) (fun K hK => ?_) (AllReadyH.cons (ops_at rfl) (fun K hK => ?_) AllReadyH.nil)
    · go_simp
      refine (cloneC_any A n c cs lo hi _ HN.out hlen s_2 (by omega)).mono ?_
      rintro e ua ⟨A1, n1, c1, rfl, hl1, hn1, ho1, hdua⟩
      obtain rfl : n1 = n := hl1.symm.trans HN.out
      have hzdua := hdua.size
      have hP_a := (hdua.block _ (by omega)).trans hH0
      refine hK.out _ _ hP_a (fun hH1 => ?_)
      clear hK K
      refine wpAnyH_take (i := 5) (v := ?_) (ops_at rfl) (by kernel_rfl) (by kernel_rfl) (by kernel_rfl) (fun _ _ _ h => h) (Or.inl ⟨by rfl, ?yb5⟩) (by assumption) ?nb5
      case yb5 => (intro wS hSw; go_simp; try rfl)
      try simp only [Act.put, List.setIfInBounds_toArray, List.set_cons_zero, List.set_cons_succ]
      refine wpAnyH_ready (rs := [6]) (by kernel_rfl) (by simp) ?_
      refine AllReadyH.cons (ops_at rfl) (fun K hK => ?_) AllReadyH.nil
      go_simp
      obtain ⟨ub, hub⟩ : ∃ v, ua.alloc (.cells #[.int .i64 0, .slice none 0 0] 35) = v := ⟨_, rfl⟩
      have hdub : Below ua.heap.size ua ub := by rw [← hub]; exact (Below.refl _ _).alloc (Nat.le_refl _) _
      have mub : ub.heap[ua.heap.size]? = some (.cells #[.int .i64 0, .slice none 0 0] 35 (0, 0)) := by rw [← hub]; exact new_at _ _ rfl
      have mlub : ua.heap.size < ub.heap.size := by rw [← hub]; simp
      have hzdub := hdub.size
      rw [hub]
      clear hub
      have hP_b := (hdub.block _ (by omega)).trans hP_a
      have ho2 := ho1.below hdub (Nat.le_refl _)
      have HBL := hd0.trans ((hdua.trans (hdub.mono hzdua)).mono hzd0)
      refine hK.out _ _ hP_b (fun hH2 => ?_)
      clear hK K
      have d0 := cell_of mub 0
      have d1 := cell_of mub 1
      have e0 := frozen_of mub 0
      have e1 := frozen_of mub 1
      simp only [List.getElem?_toArray, List.getElem?_cons_zero, List.getElem?_cons_succ] at d0 d1
      have far2 : ∀ x, x ≠ ua.heap.size → ((ub.setCell ⟨ua.heap.size, 0, none⟩ (.int .i64 (N : Int))).setCell ⟨ua.heap.size, 1, none⟩ (.slice A1 n1 c1)).heap[x]? = ub.heap[x]? := fun x hx => (set_far _ hx _).trans (set_far _ hx _)
      have FAR2 := Lib.hid far2
      clear far2
      have fin := set_self (set_self mub 0 (.int .i64 (N : Int))) 1 (.slice A1 n1 c1)
      have FIN := Lib.hid fin
      clear fin
      refine wpAnyH_ready (rs := [7]) (by kernel_rfl) (by simp) ?_
      refine AllReadyH.cons (ops_at rfl) (fun K hK => ?_) AllReadyH.nil
      go_simp
      refine hK.out _ _ ((FAR2.out _ (by omega)).trans hP_b) (fun hRs => ?_)
      clear hK K
      refine wpAnyH_done (by kernel_rfl) ?_ _
      go_wp2_with fail
      go_meet
      refine ⟨A1, c1, ua.heap.size, u0.heap.size, ua.heap.size, rfl, by omega, by omega, ?_, by omega, by omega, ho2.keep (fun b hb1 hb2 => FAR2.out _ (by omega)), by simpa using FIN.out, (HBL.setCell (p := ⟨ua.heap.size, 0, none⟩) (by show _ ≤ ua.heap.size; omega) _).setCell (p := ⟨ua.heap.size, 1, none⟩) (by show _ ≤ ua.heap.size; omega) _⟩
      simp only [World.size_setCell]
      omega
    · go_simp
      obtain ⟨ua, hua⟩ : ∃ v, u0.alloc (.cells #[.int .i64 0, .slice none 0 0] 35) = v := ⟨_, rfl⟩
      have hdua : Below u0.heap.size u0 ua := by rw [← hua]; exact (Below.refl _ _).alloc (Nat.le_refl _) _
      have mua : ua.heap[u0.heap.size]? = some (.cells #[.int .i64 0, .slice none 0 0] 35 (0, 0)) := by rw [← hua]; exact new_at _ _ rfl
      have mlua : u0.heap.size < ua.heap.size := by rw [← hua]; simp
      have hzdua := hdua.size
      rw [hua]
      clear hua
      have hP_a := (hdua.block _ (by omega)).trans hH0
      have s_3 := s_2.below hdua (by omega)
      refine hK.out _ _ hP_a (fun hH1 => ?_)
      clear hK K
      refine wpAnyH_ready (rs := [4]) (by kernel_rfl) (by simp) ?_
      refine AllReadyH.cons (ops_at rfl) (fun K hK => ?_) AllReadyH.nil
      go_simp
      refine (cloneC_any A n c cs lo hi _ HN.out hlen s_3 (by omega)).mono ?_
      rintro e ub ⟨A1, n1, c1, rfl, hl1, hn1, ho1, hdub⟩
      obtain rfl : n1 = n := hl1.symm.trans HN.out
      have hzdub := hdub.size
      have hP_b := (hdub.block _ (by omega)).trans hP_a
      have mub := (hdub.block _ (by omega)).trans mua
      have HBL := hd0.trans ((hdua.trans (hdub.mono hzdua)).mono hzd0)
      refine hK.out _ _ hP_b (fun hH2 => ?_)
      clear hK K
      refine wpAnyH_take (i := 5) (v := ?_) (ops_at rfl) (by kernel_rfl) (by kernel_rfl) (by kernel_rfl) (fun _ _ _ h => h) (Or.inl ⟨by rfl, ?yc5⟩) (by assumption) ?nc5
      case yc5 => (intro wS hSw; go_simp; try rfl)
      try simp only [Act.put, List.setIfInBounds_toArray, List.set_cons_zero, List.set_cons_succ]
      have d0 := cell_of mub 0
      have d1 := cell_of mub 1
      have e0 := frozen_of mub 0
      have e1 := frozen_of mub 1
      simp only [List.getElem?_toArray, List.getElem?_cons_zero, List.getElem?_cons_succ] at d0 d1
      have far2 : ∀ x, x ≠ u0.heap.size → ((ub.setCell ⟨u0.heap.size, 0, none⟩ (.int .i64 (N : Int))).setCell ⟨u0.heap.size, 1, none⟩ (.slice A1 n1 c1)).heap[x]? = ub.heap[x]? := fun x hx => (set_far _ hx _).trans (set_far _ hx _)
      have FAR2 := Lib.hid far2
      clear far2
      have fin := set_self (set_self mub 0 (.int .i64 (N : Int))) 1 (.slice A1 n1 c1)
      have FIN := Lib.hid fin
      clear fin
      refine wpAnyH_ready (rs := [7]) (by kernel_rfl) (by simp) ?_
      refine AllReadyH.cons (ops_at rfl) (fun K hK => ?_) AllReadyH.nil
      go_simp
      refine hK.out _ _ ((FAR2.out _ (by omega)).trans hP_b) (fun hRs => ?_)
      clear hK K
      refine wpAnyH_done (by kernel_rfl) ?_ _
      go_wp2_with fail
      go_meet
      refine ⟨A1, c1, u0.heap.size, ua.heap.size, ub.heap.size, rfl, by omega, by omega, ?_, by omega, by omega, ho1.keep (fun b hb1 hb2 => FAR2.out _ (by omega)), by simpa using FIN.out, (HBL.setCell (p := ⟨u0.heap.size, 0, none⟩) (by show _ ≤ u0.heap.size; omega) _).setCell (p := ⟨u0.heap.size, 1, none⟩) (by show _ ≤ u0.heap.size; omega) _⟩
      simp only [World.size_setCell]
      omega
  case rest =>
    obtain ⟨A1, n1, g1, lo1, hi1, rfl, hn1, hlo1, hhi1, hfar1, hg1, ho1, hm1, hbx⟩ := hcut
    skip
    have hgl := heap_lt hm1
    have HO1 := Lib.hid ho1
    have HM1 := Lib.hid hm1
    have HBX := Lib.hid hbx
    clear ho1 hm1 q0 q1 c0 c1 f0 f1
    go_wp2
    go_loopw [5, 6] (fun i _ wr => ∃ (ds : List Clu) (Ad : Option Addr) (nd cd k lo2 hi2 : Nat), i = .int .i64 (k : Int) ∧ ds.length = nd ∧ nd ≤ cd ∧ nd ≤ n ∧ k ≤ nd ∧ (∀ c ∈ ds, clueB (N : Int) c = true) ∧ hardF N ds k = hardF N cs 0 ∧ v1.heap.size ≤ lo2 ∧ hi2 ≤ wr.heap.size ∧ (g1 < lo2 ∨ hi2 ≤ g1) ∧ Own wr lo2 hi2 Ad (flat4 ds) ∧ wr.heap[g1]? = some (.cells #[.int .i64 (N : Int), .slice Ad nd cd] 35 (0, 0)) ∧ Below v1.heap.size v1 wr) (fun i _ wr => lenAt wr g1 - (intOf i).toNat)
    case atStart => exact ⟨cs, A1, n, n1, 0, lo1, hi1, rfl, HN.out, hn1, Nat.le_refl _, Nat.zero_le _, hcl, rfl, hlo1, hhi1, hfar1, HO1.out, HM1.out, HBX.out⟩
    case round =>
      rename World => wr
      obtain ⟨ds, Ad, nd, cd, k, lo2, hi2, rfl, hdl, hnc2, hnn, hk, hcd, hh, hlo2, hhi2, hfar2, hod, hgr, hbr⟩ := hrel
      have hzr := hbr.size
      have HDL := Lib.hid hdl
      have HH := Lib.hid hh
      have HOD := Lib.hid hod
      have HCD := Lib.hid hcd
      clear hdl hh hod hcd
      have hgw := heap_lt hgr
      have p_2 := (hbr.block _ (by omega)).trans p_1
      have r_2 := (hbr.block _ (by omega)).trans r_1
      have hla : lenAt wr g1 = nd := by rw [lenAt, cell_of hgr 1]; rfl
      have k0 := cell_of hgr 0
      have k1 := cell_of hgr 1
      simp only [List.getElem?_toArray, List.getElem?_cons_zero, List.getElem?_cons_succ] at k0 k1
      by_cases hlt : k < nd
      · have hlt' : decide ((k : Int) < (nd : Int)) = true := decide_eq_true (by omega)
        go_wp2_with fail
        refine (without_any (N : Int) Ad nd cd k ds _ _ _ HDL.out (by omega) hnc2 hlt HOD.out.seg (by omega)).mono ?_
        rintro e xa ⟨A2, n2, c2, rfl, hl2, hnc3, ho2, hba⟩
        have hza := hba.size
        have hp2 := dropC_length (cs := ds) (k := k) (by have := HDL.out; omega)
        have hn2 : n2 + 1 = nd := by have := HDL.out; omega
        obtain ⟨xc, hxc⟩ : ∃ u, xa.alloc (.cells #[.int .i64 (N : Int), .slice A2 n2 c2] 35) = u := ⟨_, rfl⟩
        have hbc : Below xa.heap.size xa xc := by rw [← hxc]; exact (Below.refl _ _).alloc (Nat.le_refl _) _
        have hmc : xc.heap[xa.heap.size]? = some (.cells #[.int .i64 (N : Int), .slice A2 n2 c2] 35 (0, 0)) := by rw [← hxc]; exact new_at _ _ rfl
        have hzc := heap_lt hmc
        have ho3 := ho2.below hbc (Nat.le_refl _)
        have HXC := Lib.hid hxc
        have HCL := Lib.hid (dropC_clues (k := k) HCD.out)
        have HO2 := Lib.hid ho3
        have HL2 := Lib.hid hl2
        obtain ⟨b, hb⟩ : ∃ b, oneS N (dropC ds k) = b := ⟨_, rfl⟩
        have HB3 := Lib.hid hb
        clear hb ho2 ho3 hl2 hp2 hxc k0 k1
        go_wp2_with fail
        rw [HXC.out]
        refine (isSolved_any A2 n2 c2 (dropC ds k) N _ _ _ hN HL2.out (by omega) HCL.out HO2.out.seg (by omega) b HB3.out).mono ?_
        rintro e xb ⟨rfl, hbb⟩
        have hzb := hbb.size
        have hBt := hba.trans ((hbc.trans (hbb.mono (by omega))).mono hza)
        have hBB := Lib.hid (hbr.trans (hBt.mono hzr))
        have hgb := (hBt.block _ hgw).trans hgr
        cases b
        · have hx := hardF_no (N := N) (k := k) (by have := HDL.out; omega) HB3.out
          have HNX := Lib.hid (hx.symm.trans HH.out)
          have HOD2 := Lib.hid (HOD.out.below hBt hhi2)
          have HGB := Lib.hid hgb
          have hlb : lenAt xb g1 = nd := by rw [lenAt, cell_of hgb 1]; rfl
          clear hx hgb
          go_wp2
          go_roundw
          case rel => exact ⟨ds, Ad, nd, cd, k + 1, lo2, hi2, by go_num, HDL.out, hnc2, hnn, by omega, HCD.out, HNX.out, hlo2, by omega, hfar2, HOD2.out, HGB.out, hBB.out⟩
          case measure => (try rw [hla, hlb]); simp [intOf]; omega
        · have hx := hardF_yes (N := N) (k := k) (by have := HDL.out; omega) HB3.out
          have HNX := Lib.hid (hx.symm.trans HH.out)
          clear hx
          have hmb := (hbb.block _ (by omega)).trans hmc
          have k0 := cell_of hmb 0
          have k1 := cell_of hmb 1
          have d0 := cell_of hgb 0
          have d1 := cell_of hgb 1
          have e0 := frozen_of hgb 0
          have e1 := frozen_of hgb 1
          simp only [List.getElem?_toArray, List.getElem?_cons_zero, List.getElem?_cons_succ] at k0 k1 d0 d1
          have far2 : ∀ x, x ≠ g1 → ((xb.setCell ⟨g1, 0, none⟩ (.int .i64 (N : Int))).setCell ⟨g1, 1, none⟩ (.slice A2 n2 c2)).heap[x]? = xb.heap[x]? := fun x hx => (set_far _ hx _).trans (set_far _ hx _)
          have FAR2 := Lib.hid far2
          clear far2
          have fin := set_self (set_self hgb 0 (.int .i64 (N : Int))) 1 (.slice A2 n2 c2)
          have FIN := Lib.hid fin
          have HBS := Lib.hid ((hBB.out.setCell (p := ⟨g1, 0, none⟩) (by show _ ≤ g1; omega) (.int .i64 (N : Int))).setCell (p := ⟨g1, 1, none⟩) (by show _ ≤ g1; omega) (.slice A2 n2 c2))
          have hlb : lenAt ((xb.setCell ⟨g1, 0, none⟩ (.int .i64 (N : Int))).setCell ⟨g1, 1, none⟩ (.slice A2 n2 c2)) g1 = n2 := by rw [lenAt, cell_of fin 1]; rfl
          have HLB := Lib.hid hlb
          clear fin hlb hgb
          have HOS := Lib.hid ((HO2.out.below hbb (by omega)).keep (w' := (xb.setCell ⟨g1, 0, none⟩ (.int .i64 (N : Int))).setCell ⟨g1, 1, none⟩ (.slice A2 n2 c2)) fun b hb1 hb2 => FAR2.out _ (by omega))
          go_wp2
          go_roundw
          case rel => exact ⟨dropC ds k, A2, n2, c2, k, _, _, rfl, HL2.out, hnc3, by omega, by omega, HCL.out, HNX.out, by omega, by simp only [World.size_setCell]; omega, by omega, HOS.out, by simpa using FIN.out, HBS.out⟩
          case measure => (try rw [hla, HLB.out]); simp [intOf]; omega
      · obtain ⟨hkk⟩ : Nonempty (k = nd) := ⟨by omega⟩
        have hlt' : decide ((k : Int) < (nd : Int)) = false := decide_eq_false (by omega)
        have YR := y1.trans (hbr.mono y1.size)
        have q0 := cell_of p_2 0
        have q1 := cell_of p_2 1
        have c0 := cell_of r_2 0
        have c1 := cell_of r_2 1
        have f0 := frozen_of r_2 0
        have f1 := frozen_of r_2 1
        simp only [List.getElem?_toArray, List.getElem?_cons_zero, List.getElem?_cons_succ] at q0 q1 c0 c1
        have ed : ds = hardF N cs 0 := by rw [← HH.out]; exact (hardF_end (by have := HDL.out; omega)).symm
        go_wp2
        have hl4 : (listU true (hardF ((N : Int)).toNat cs 0)).length = nd := by show (hardF N cs 0).length = nd; rw [← ed]; exact HDL.out
        refine bodyPost_ret (v := .tuple #[pzV (N : Int) Ad nd cd, .bool true]) (by simp [results, Try.results58, go_sem, c0, c1]) rfl ⟨Ad, nd, cd, rfl, hl4, ?_, (YR.setCell (p := ⟨w.heap.size + 1, 0, none⟩) (by simp) _).setCell (p := ⟨w.heap.size + 1, 1, none⟩) (by simp) _⟩
        simp only [World.size_setCell]
        have ho5 := (HOD.out.keep (w' := (wr.setCell ⟨w.heap.size + 1, 0, none⟩ (.int .i64 (N : Int))).setCell ⟨w.heap.size + 1, 1, none⟩ (.slice Ad nd cd)) fun b hb1 hb2 => FAR.out _ _ _ _ (by omega)).more (show w.heap.size ≤ lo2 by omega) hhi2
        show Own _ _ _ _ (flat4 (hardF N cs 0))
        rw [← ed]
        exact ho5
end Go.Proofs.Ytoheoojpmndhoaa

/-
  The written program's puzzle of a text.
  Conditions: none.
-/
import Derived.Test.YtoheoojpmndhoabDoorTxZSpec
import Derived.Test.YtoheoojpmndhoabDoorShelf4
namespace Go.Proofs.YtoheoojpmndhoabDoor
set_option linter.unusedVariables false
set_option linter.unusedSimpArgs false
open Go.RowKit

/-- The library's cut of a text at its first t. -/
theorem cut_any (s : ByteArray) (w : World) (hmax : s.size ≤ 1048576) (hv : Vars w) :
    Calls Tryd.prog 23 #[.string s, .string ⟨#[116]⟩] w fun e w' => e = .returned (.tuple #[.string (headA s), .string (tailA s), .bool (Lib.cut s.data.toList [116]).2.2]) ∧ Below w.heap.size w w' := by
  obtain ⟨_, _, k, h3⟩ := hv
  refine (Any.strings_Cut laysCut s ⟨#[116]⟩ k w (by omega) h3).mono ?_
  rintro e w' ⟨rfl, n, rfl⟩
  exact ⟨rfl, below_drewN (Below.refl _ _) n⟩
theorem cut_len (s : ByteArray) : (headA s).size ≤ s.size ∧ (tailA s).size ≤ s.size := by
  rw [← size_list s, ← size_list (headA s), ← size_list (tailA s), headA, tailA, Lib.cut]
  split <;> simp <;> omega
theorem no_bytes {x : ByteArray} (h : x.size = 0) : x = ⟨#[]⟩ := bytes_injQ (List.eq_nil_of_length_eq_zero (by rw [size_list]; exact h))

set_option maxRecDepth 100000 in
set_option maxHeartbeats 2000000 in
theorem impl_ParsePuzzle (s : ByteArray) (w : World) (hmax : s.size ≤ 1048576) (hv : Vars w) (hT : Tab w) (q : Bool) (hq : implQ s = q) :
    Calls Tryd.prog 11 #[.string s] w (RetU q (intU q (tA s)) (listU q (clsA (tailA s))) w) := by
  obtain ⟨t, htt⟩ : ∃ t, tA s = t := ⟨_, rfl⟩
  obtain ⟨cc, hcc⟩ : ∃ cc, clsA (tailA s) = cc := ⟨_, rfl⟩
  rw [htt, hcc]
  have hqq : q = ((atoiO (headA s)).isSome && (okA (tailA s) && goodT t cc s)) := by rw [← hq, implQ, htt, hcc]
  rw [tA] at htt
  obtain ⟨W, hW⟩ : ∃ W, w.alloc (.cells #[.int .i64 0, .slice none 0 0] 30) = W := ⟨_, rfl⟩
  have z0 : Below w.heap.size w W := by rw [← hW]; exact (Below.refl _ _).alloc (Nat.le_refl _) _
  have r0 : W.heap[w.heap.size]? = some (.cells #[.int .i64 0, .slice none 0 0] 30 (0, 0)) := by rw [← hW]; exact new_at _ _ rfl
  have hsz := heap_lt r0
  obtain ⟨hs0, hs1⟩ := cut_len s
  have HCUT := Lib.hid (cut_any s)
  obtain ⟨ha, hha⟩ : ∃ h, headA s = h := ⟨_, rfl⟩
  obtain ⟨ta, hta⟩ : ∃ h, tailA s = h := ⟨_, rfl⟩
  obtain ⟨fb, hfb⟩ : ∃ h, (Lib.cut s.data.toList [116]).2.2 = h := ⟨_, rfl⟩
  rw [hha, hta, hfb] at HCUT
  rw [hha] at hqq htt hs0
  rw [hta] at hqq hcc hs1
  have HQQ := Lib.hid hqq
  have HTT := Lib.hid htt
  have HCC := Lib.hid hcc
  have HT := Lib.hid hT
  have HV := Lib.hid hv
  have HW := Lib.hid hW
  clear hqq htt hcc hT hv hW hha hta hfb hq
  go_enter Tryd.func11, Tryd.ntmps11
  go_wp2_with fail
  rw [HW.out]
  refine (HCUT.out W hmax (HV.out.below z0 (Nat.le_refl _))).mono ?_
  rintro e v1 ⟨rfl, hb1⟩
  have hz1 := hb1.size
  have y1 := z0.trans (hb1.mono z0.size)
  have r1 := (hb1.block _ hsz).trans r0
  go_wp2_with fail
  refine (atoi_any ha _ (by omega) (HV.out.below y1 (Nat.le_refl _))).mono ?_
  rintro e v2 ⟨hb2, ⟨v, hat, rfl⟩ | ⟨hat, v, tt, pp, rfl⟩⟩
  case inr =>
    obtain rfl : q = false := by rw [HQQ.out, hat]; rfl
    have y2 := y1.trans (hb2.mono y1.size)
    have r2 := (hb2.block _ (by have := hz1; omega)).trans r1
    clear hat
    have c0 := cell_of r2 0
    have c1 := cell_of r2 1
    have f0 := frozen_of r2 0
    have f1 := frozen_of r2 1
    simp only [List.getElem?_toArray, List.getElem?_cons_zero, List.getElem?_cons_succ] at c0 c1
    go_wp2_with fail
    refine bodyPost_ret (v := .tuple #[pzV 0 none 0 0, .bool false]) (by simp [results, Tryd.results11, go_sem, c0, c1]) rfl ⟨none, 0, 0, rfl, rfl, .inl rfl, ?_⟩
    exact (y2.setCell (p := ⟨w.heap.size, 0, none⟩) (Nat.le_refl _) _).setCell (p := ⟨w.heap.size, 1, none⟩) (Nat.le_refl _) _
  obtain rfl : v = t := by have h := HTT.out; rw [hat] at h; exact h
  have HQ2 := Lib.hid (show q = (okA ta && goodT v cc s) by rw [HQQ.out, hat]; rfl)
  have TEQ : (Ending.returned (.tuple #[pzV v none 0 0, .bool true])) = .returned (.tuple #[pzV v none 0 0, .bool true]) := rfl
  have hz2 := hb2.size
  have y2 := y1.trans (hb2.mono y1.size)
  have r2 := (hb2.block _ (by omega)).trans r1
  clear hat HQQ HTT TEQ
  skip
  obtain ⟨u1, hu1⟩ : ∃ u1, v2.alloc (.cells #[.int .i64 v, .slice none 0 0] 30) = u1 := ⟨_, rfl⟩
  have hbu : Below v2.heap.size v2 u1 := by rw [← hu1]; exact (Below.refl _ _).alloc (Nat.le_refl _) _
  have hzu : u1.heap.size = v2.heap.size + 1 := by rw [← hu1]; simp
  have hbx : u1.heap[v2.heap.size]? = some (.cells #[.int .i64 v, .slice none 0 0] 30 (0, 0)) := by rw [← hu1]; exact new_at _ _ rfl
  have hrx := (hbu.block _ (by omega)).trans r2
  have yx := y2.trans (hbu.mono y2.size)
  have HU1 := Lib.hid hu1
  clear hu1
  have hwv : w.heap.size < v2.heap.size := by omega
  go_upto_region 6 with (fail)
  rw [HU1.out]
  by_cases hz : ta.size = 0
  · obtain rfl := no_bytes hz
    have CEQ : cc = [] := HCC.out.symm.trans rfl
    have HG := Lib.hid (show q = goodT v [] s by rw [HQ2.out, CEQ]; rfl)
    have hown0 : Own u1 u1.heap.size u1.heap.size none (flat4 []) := .inl rfl
    obtain ⟨g, hg⟩ : ∃ g, puzB v ([] : List Clu) = g := ⟨_, rfl⟩
    have HGG := Lib.hid hg
    clear hg
    have hgx := heap_lt hbx
    have hlen6 : ([] : List Clu).length = 0 := rfl
    have HL := Lib.hid hlen6
    clear hlen6
    have hTx := HT.out.below yx (Nat.le_refl _)
    obtain ⟨tx, htx⟩ : ∃ tx, somePT g (pzS v ([] : List Clu)) = tx := ⟨_, rfl⟩
    have HTX := Lib.hid htx
    clear htx
    have q0 := cell_of hbx 0
    have q1 := cell_of hbx 1
    simp only [List.getElem?_toArray, List.getElem?_cons_zero, List.getElem?_cons_succ] at q0 q1
    go_wp2_with fail
    refine (impl_PuzzleText v none 0 0 ([] : List Clu) _ _ _ HL.out (by omega) hown0.seg (by omega) g HGG.out hTx).mono ?_
    rw [HTX.out]
    rintro e d1 ⟨rfl, hc1⟩
    have hzc1 := hc1.size
    have hbd := (hc1.block _ hgx).trans hbx
    have hrd := (hc1.block _ (by omega)).trans hrx
    have yd := yx.trans (hc1.mono yx.size)
    have hod := hown0.below hc1 (by omega)
    clear q0 q1
    have q0 := cell_of hbd 0
    have q1 := cell_of hbd 1
    simp only [List.getElem?_toArray, List.getElem?_cons_zero, List.getElem?_cons_succ] at q0 q1
    have c0 := cell_of hrd 0
    have c1 := cell_of hrd 1
    have f0 := frozen_of hrd 0
    have f1 := frozen_of hrd 1
    simp only [List.getElem?_toArray, List.getElem?_cons_zero, List.getElem?_cons_succ] at c0 c1
    cases g
    · obtain rfl : q = false := by rw [HG.out, goodT, HGG.out, Bool.false_and]
      go_wp2_with fail
      refine bodyPost_ret (v := .tuple #[pzV 0 none 0 0, .bool false]) (by simp [results, Tryd.results11, go_sem, c0, c1]) rfl ⟨none, 0, 0, rfl, rfl, .inl rfl, ?_⟩
      exact (yd.setCell (p := ⟨w.heap.size, 0, none⟩) (Nat.le_refl _) _).setCell (p := ⟨w.heap.size, 1, none⟩) (Nat.le_refl _) _
    · have HEQ := Lib.hid (show (tx.toList == s.toList) = q by rw [HG.out, goodT, HGG.out, Bool.true_and, ← HTX.out]; rfl)
      cases q
      · have hE := HEQ.out
        go_wp2_with fail
        refine bodyPost_ret (v := .tuple #[pzV 0 none 0 0, .bool false]) (by simp [results, Tryd.results11, go_sem, c0, c1]) rfl ⟨none, 0, 0, rfl, rfl, .inl rfl, ?_⟩
        exact (yd.setCell (p := ⟨w.heap.size, 0, none⟩) (Nat.le_refl _) _).setCell (p := ⟨w.heap.size, 1, none⟩) (Nat.le_refl _) _
      · have hE := HEQ.out
        have far2 : ∀ x, x ≠ w.heap.size → ((d1.setCell ⟨w.heap.size, 0, none⟩ (.int .i64 v)).setCell ⟨w.heap.size, 1, none⟩ (.slice none 0 0)).heap[x]? = d1.heap[x]? := fun x hx => (set_far _ hx _).trans (set_far _ hx _)
        have FAR2 := Lib.hid far2
        clear far2
        go_wp2_with fail
        refine bodyPost_ret (v := .tuple #[pzV v none 0 0, .bool true]) (by simp [results, Tryd.results11, go_sem, c0, c1]) rfl ⟨none, 0, 0, rfl, ?_, ?_, (yd.setCell (p := ⟨w.heap.size, 0, none⟩) (Nat.le_refl _) _).setCell (p := ⟨w.heap.size, 1, none⟩) (Nat.le_refl _) _⟩
        · show cc.length = _; rw [CEQ]; exact HL.out
        · show Own _ _ _ _ (flat4 cc)
          rw [CEQ]
          simp only [World.size_setCell]
          exact (hod.keep (fun b hb1 hb2 => FAR2.out _ (by omega))).more (by omega) (by omega)
  · have hne : (ta.toList == (⟨#[]⟩ : ByteArray).toList) = false := by
      cases h : (ta.toList == (⟨#[]⟩ : ByteArray).toList) with
      | false => rfl
      | true => exact absurd (by rw [toList_injQ h]; rfl) hz
    have hne2 := hne
    rw [show (⟨#[]⟩ : ByteArray).toList = [] by rw [ByteArray.toList_eq]] at hne2
    obtain ⟨p, hp⟩ : ∃ p, (cutN 44 6 ta).all (rowB 46 4) = p := ⟨_, rfl⟩
    have hcl : (cutN 44 6 ta).length ≤ 6 := by have := Lib.splitB_length_le ⟨#[44]⟩ 0 (min 6 (ta.size + 1) - 1) ta; unfold cutN; omega
    have hc2 : ∀ x, (cutN 46 4 x).length ≤ 4 := by intro x; have := Lib.splitB_length_le ⟨#[46]⟩ 0 (min 4 (x.size + 1) - 1) x; unfold cutN; omega
    have HSP := Lib.hid (fun (X : World) (hX : Vars X) => splitRows_any 46 6 4 ta X (by omega) hX (by omega) (by omega) hcl hc2 p hp)
    have hok : okA ta = p := by rw [okA, decide_eq_false hz, Bool.false_or, hp]
    have HOK := Lib.hid hok
    have HBS := Lib.hid (show cc = (cutN 44 6 ta).map quadA by rw [← HCC.out, clsA, if_neg hz])
    have HPE := Lib.hid hp
    obtain ⟨ys, hys⟩ : ∃ ys, cutN 44 6 ta = ys := ⟨_, rfl⟩
    rw [hys] at HSP HBS HPE hcl
    obtain ⟨m, hm⟩ : ∃ m, ys.length = m := ⟨_, rfl⟩
    rw [hm] at HSP hcl
    have HM := Lib.hid hm
    obtain ⟨rows, hrows⟩ : ∃ rows, ys.map (rowA 46 4) = rows := ⟨_, rfl⟩
    rw [hrows] at HSP
    have HRW := Lib.hid hrows
    clear hp hok hc2 hys hm hrows
    go_wp2_with fail
    refine (HSP.out _ (HV.out.below yx (Nat.le_refl _))).mono ?_
    rintro e w4 ⟨vr, rfl, hb4, hf1, hf2⟩
    have hz4 := hb4.size
    have y4 := yx.trans (hb4.mono yx.size)
    have hbx4 := (hb4.block _ (by omega)).trans hbx
    have hrx4 := (hb4.block _ (by omega)).trans hrx
    cases p
    · obtain rfl := hf1 rfl
      obtain rfl : q = false := by rw [HQ2.out, HOK.out, Bool.false_and]
      have c0 := cell_of hrx4 0
      have c1 := cell_of hrx4 1
      have f0 := frozen_of hrx4 0
      have f1 := frozen_of hrx4 1
      simp only [List.getElem?_toArray, List.getElem?_cons_zero, List.getElem?_cons_succ] at c0 c1
      go_wp2_with fail
      refine bodyPost_ret (v := .tuple #[pzV 0 none 0 0, .bool false]) (by simp [results, Tryd.results11, go_sem, c0, c1]) rfl ⟨none, 0, 0, rfl, rfl, .inl rfl, ?_⟩
      exact (y4.setCell (p := ⟨w.heap.size, 0, none⟩) (Nat.le_refl _) _).setCell (p := ⟨w.heap.size, 1, none⟩) (Nat.le_refl _) _
    obtain ⟨gr, hgr, rfl, hrat⟩ := hf2 rfl
    have HRAT := Lib.hid hrat
    have hgrl := hrat.lt
    have HCL := Lib.hid (show cc.length = m by rw [HBS.out, List.length_map]; exact HM.out)
    have hB4 : Below v2.heap.size v2 w4 := hbu.trans (hb4.mono hbu.size)
    obtain ⟨i0, hi0, hy0, hy1, hy2⟩ := info_parts clue_infoI
    clear hf1 hf2 hrat
    go_wp2
    go_loopw [44] (fun i wr => ∃ (k : Nat) (Ad : Option Addr) (cd : Nat), k ≤ m ∧ i = .int .i64 (k : Int) ∧ wr.heap[v2.heap.size]? = some (.cells #[.int .i64 v, .slice Ad k cd] 30 (0, 0)) ∧ wr.ownsRow w4.heap.size 44 4 (.slice Ad k cd) k (vals4 (cc.take k)) ∧ w4.heap.size ≤ wr.heap.size ∧ (∀ b, b < w4.heap.size → b ≠ v2.heap.size → wr.heap[b]? = w4.heap[b]?) ∧ Below v2.heap.size v2 wr) (fun i _ => m - (intOf i).toNat)
    case atStart => exact ⟨0, none, 0, Nat.zero_le _, rfl, hbx4, World.ownsRow_nil _ _ _ _, Nat.le_refl _, fun _ _ _ => rfl, hB4⟩
    case round =>
      rename World => wr
      obtain ⟨k, Ad, cd, hk, rfl, hbk, hrow, hzk, hfar, hbr⟩ := hrel
      have HFAR := Lib.hid hfar
      have hzr := hbr.size
      have hrk := (hfar w.heap.size (by omega) (by omega)).trans hrx4
      have hgk := heap_lt hbk
      clear hfar
      by_cases hlt : k < m
      · have hlt' : decide ((k : Int) < (m : Int)) = true := decide_eq_true (by omega)
        have hltI : (k : Int) < (m : Int) := by omega
        obtain ⟨x, hx⟩ : ∃ x, ys[k]? = some x := ⟨_, List.getElem?_eq_getElem (by rw [HM.out]; exact hlt)⟩
        have HRB := Lib.hid (show rowB 46 4 x = true from List.all_eq_true.1 HPE.out x (List.mem_of_getElem? hx))
        have hrk2 : rows[k]? = some (rowA 46 4 x) := by rw [← HRW.out, List.getElem?_map, hx]; rfl
        have hbk2 : cc[k]? = some (quadA x) := by rw [HBS.out, List.getElem?_map, hx]; rfl
        have hrl := rowA_length HRB.out
        have hqa : quadA x = ((rowA 46 4 x).getD 0 0, (rowA 46 4 x).getD 1 0, (rowA 46 4 x).getD 2 0, (rowA 46 4 x).getD 3 0) := rfl
        rw [hqa] at hbk2
        obtain ⟨ns, hns⟩ : ∃ ns, rowA 46 4 x = ns := ⟨_, rfl⟩
        rw [hns] at hrk2 hrl hbk2
        obtain ⟨r0', r1', r2', r3', rfl⟩ := list4Q hrl
        obtain ⟨A2, c2, hcr, hsr⟩ := HRAT.out.row hlt hrk2
        have hcr2 : wr.cell? ⟨gr, k, none⟩ = some (.slice A2 4 c2) := (World.cell?_of_block (HFAR.out gr (by omega) (by omega))).trans hcr
        have hsr2 := hsr.keep (w' := wr) (fun p h1 h2 => World.cell?_of_block (HFAR.out p.block h2 (by omega)))
        rcases hsr2 with h | ⟨b2, o2, rfl, hlo2, hhi2, hcc2⟩
        · cases h
        have hc80 : wr.cell? ⟨b2, o2, none⟩ = some (.int .i64 r0') := hcc2 0 (by simp)
        have hc81 : wr.cell? ⟨b2, o2 + 1, none⟩ = some (.int .i64 r1') := hcc2 1 (by simp)
        have hc82 : wr.cell? ⟨b2, o2 + 2, none⟩ = some (.int .i64 r2') := hcc2 2 (by simp)
        have hc83 : wr.cell? ⟨b2, o2 + 3, none⟩ = some (.int .i64 r3') := hcc2 3 (by simp)
        have HLT := Lib.hid hrow.lt
        have HNX := Lib.hid (show cc.take (k + 1) = cc.take k ++ [(r0', r1', r2', r3')] by rw [List.take_add_one, hbk2]; rfl)
        clear hx hrk2 hbk2 hrl hns hqa hcr hsr hcc2
        go_wp2_with fail
        refine region_E (S := (fun wq => wq.cell? ⟨b2, o2, none⟩ = some (.int .i64 r0') ∧ wq.cell? ⟨b2, o2 + 1, none⟩ = some (.int .i64 r1') ∧ wq.cell? ⟨b2, o2 + 2, none⟩ = some (.int .i64 r2') ∧ wq.cell? ⟨b2, o2 + 3, none⟩ = some (.int .i64 r3') ∧ wq.heap[v2.heap.size]? = some (.cells #[.int .i64 v, .slice Ad k cd] 30 (0, 0)))) 18 (by kernel_rfl) ⟨hc80, hc81, hc82, hc83, hbk⟩ (fun hH0 => ?_)
        refine AnyE.take (i := 0) (v := ?_) (ops_at rfl) (by kernel_rfl) (by kernel_rfl) (by kernel_rfl) (by kernel_rfl) (fun _ _ _ h => h) (Or.inl ⟨by rfl, ?ye0⟩) (by assumption) ?ne0
        case ye0 => (intro wS hSw; obtain ⟨s0, s1, s2, s3, s4⟩ := hSw; have q0 := cell_of s4 0; have q1 := cell_of s4 1; go_simp; try rfl)
        try simp only [Act.put, List.setIfInBounds_toArray, List.set_cons_zero, List.set_cons_succ]
        refine AnyE.take (i := 1) (v := ?_) (ops_at rfl) (by kernel_rfl) (by kernel_rfl) (by kernel_rfl) (by kernel_rfl) (fun _ _ _ h => h) (Or.inl ⟨by rfl, ?ye1⟩) (by assumption) ?ne1
        case ye1 => (intro wS hSw; obtain ⟨s0, s1, s2, s3, s4⟩ := hSw; have q0 := cell_of s4 0; have q1 := cell_of s4 1; go_simp; try rfl)
        try simp only [Act.put, List.setIfInBounds_toArray, List.set_cons_zero, List.set_cons_succ]
        refine AnyE.take (i := 2) (v := ?_) (ops_at rfl) (by kernel_rfl) (by kernel_rfl) (by kernel_rfl) (by kernel_rfl) (fun _ _ _ h => h) (Or.inl ⟨by rfl, ?ye2⟩) (by assumption) ?ne2
        case ye2 => (intro wS hSw; obtain ⟨s0, s1, s2, s3, s4⟩ := hSw; have q0 := cell_of s4 0; have q1 := cell_of s4 1; go_simp; try rfl)
        try simp only [Act.put, List.setIfInBounds_toArray, List.set_cons_zero, List.set_cons_succ]
        refine AnyE.take (i := 3) (v := ?_) (ops_at rfl) (by kernel_rfl) (by kernel_rfl) (by kernel_rfl) (by kernel_rfl) (fun _ _ _ h => h) (Or.inl ⟨by rfl, ?ye3⟩) (by assumption) ?ne3
        case ye3 => (intro wS hSw; obtain ⟨s0, s1, s2, s3, s4⟩ := hSw; have q0 := cell_of s4 0; have q1 := cell_of s4 1; go_simp; try rfl)
        try simp only [Act.put, List.setIfInBounds_toArray, List.set_cons_zero, List.set_cons_succ]
        refine AnyE.take (i := 4) (v := ?_) (ops_at rfl) (by kernel_rfl) (by kernel_rfl) (by kernel_rfl) (by kernel_rfl) (fun _ _ _ h => h) (Or.inl ⟨by rfl, ?ye4⟩) (by assumption) ?ne4
        case ye4 => (intro wS hSw; obtain ⟨s0, s1, s2, s3, s4⟩ := hSw; have q0 := cell_of s4 0; have q1 := cell_of s4 1; go_simp; try rfl)
        try simp only [Act.put, List.setIfInBounds_toArray, List.set_cons_zero, List.set_cons_succ]
        refine AnyE.take (i := 5) (v := ?_) (ops_at rfl) (by kernel_rfl) (by kernel_rfl) (by kernel_rfl) (by kernel_rfl) (fun _ _ _ h => h) (Or.inl ⟨by rfl, ?ye5⟩) (by assumption) ?ne5
        case ye5 => (intro wS hSw; obtain ⟨s0, s1, s2, s3, s4⟩ := hSw; have q0 := cell_of s4 0; have q1 := cell_of s4 1; go_simp; try rfl)
        try simp only [Act.put, List.setIfInBounds_toArray, List.set_cons_zero, List.set_cons_succ]
        refine AnyE.take (i := 6) (v := ?_) (ops_at rfl) (by kernel_rfl) (by kernel_rfl) (by kernel_rfl) (by kernel_rfl) (fun _ _ _ h => h) (Or.inl ⟨by rfl, ?ye6⟩) (by assumption) ?ne6
        case ye6 => (intro wS hSw; obtain ⟨s0, s1, s2, s3, s4⟩ := hSw; have q0 := cell_of s4 0; have q1 := cell_of s4 1; go_simp; try rfl)
        try simp only [Act.put, List.setIfInBounds_toArray, List.set_cons_zero, List.set_cons_succ]
        refine AnyE.take (i := 7) (v := ?_) (ops_at rfl) (by kernel_rfl) (by kernel_rfl) (by kernel_rfl) (by kernel_rfl) (fun _ _ _ h => h) (Or.inl ⟨by rfl, ?ye7⟩) (by assumption) ?ne7
        case ye7 => (intro wS hSw; obtain ⟨s0, s1, s2, s3, s4⟩ := hSw; have q0 := cell_of s4 0; have q1 := cell_of s4 1; go_simp; try rfl)
        try simp only [Act.put, List.setIfInBounds_toArray, List.set_cons_zero, List.set_cons_succ]
        refine AnyE.take (i := 8) (v := ?_) (ops_at rfl) (by kernel_rfl) (by kernel_rfl) (by kernel_rfl) (by kernel_rfl) (fun _ _ _ h => h) (Or.inl ⟨by rfl, ?ye8⟩) (by assumption) ?ne8
        case ye8 => (intro wS hSw; obtain ⟨s0, s1, s2, s3, s4⟩ := hSw; have q0 := cell_of s4 0; have q1 := cell_of s4 1; go_simp; try rfl)
        try simp only [Act.put, List.setIfInBounds_toArray, List.set_cons_zero, List.set_cons_succ]
        refine AnyE.take (i := 9) (v := ?_) (ops_at rfl) (by kernel_rfl) (by kernel_rfl) (by kernel_rfl) (by kernel_rfl) (fun _ _ _ h => h) (Or.inl ⟨by rfl, ?ye9⟩) (by assumption) ?ne9
        case ye9 => (intro wS hSw; obtain ⟨s0, s1, s2, s3, s4⟩ := hSw; have q0 := cell_of s4 0; have q1 := cell_of s4 1; go_simp; try rfl)
        try simp only [Act.put, List.setIfInBounds_toArray, List.set_cons_zero, List.set_cons_succ]
        refine AnyE.take (i := 10) (v := ?_) (ops_at rfl) (by kernel_rfl) (by kernel_rfl) (by kernel_rfl) (by kernel_rfl) (fun _ _ _ h => h) (Or.inl ⟨by rfl, ?ye10⟩) (by assumption) ?ne10
        case ye10 => (intro wS hSw; obtain ⟨s0, s1, s2, s3, s4⟩ := hSw; have q0 := cell_of s4 0; have q1 := cell_of s4 1; go_simp; try rfl)
        try simp only [Act.put, List.setIfInBounds_toArray, List.set_cons_zero, List.set_cons_succ]
        refine AnyE.take (i := 11) (v := ?_) (ops_at rfl) (by kernel_rfl) (by kernel_rfl) (by kernel_rfl) (by kernel_rfl) (fun _ _ _ h => h) (Or.inl ⟨by rfl, ?ye11⟩) (by assumption) ?ne11
        case ye11 => (intro wS hSw; obtain ⟨s0, s1, s2, s3, s4⟩ := hSw; have q0 := cell_of s4 0; have q1 := cell_of s4 1; go_simp; try rfl)
        try simp only [Act.put, List.setIfInBounds_toArray, List.set_cons_zero, List.set_cons_succ]
        refine AnyE.take (i := 12) (v := ?_) (ops_at rfl) (by kernel_rfl) (by kernel_rfl) (by kernel_rfl) (by kernel_rfl) (fun _ _ _ h => h) (Or.inl ⟨by rfl, ?ye12⟩) (by assumption) ?ne12
        case ye12 => (intro wS hSw; obtain ⟨s0, s1, s2, s3, s4⟩ := hSw; have q0 := cell_of s4 0; have q1 := cell_of s4 1; go_simp; try rfl)
        try simp only [Act.put, List.setIfInBounds_toArray, List.set_cons_zero, List.set_cons_succ]
        refine AnyE.take (i := 13) (v := ?_) (ops_at rfl) (by kernel_rfl) (by kernel_rfl) (by kernel_rfl) (by kernel_rfl) (fun _ _ _ h => h) (Or.inl ⟨by rfl, ?ye13⟩) (by assumption) ?ne13
        case ye13 => (intro wS hSw; obtain ⟨s0, s1, s2, s3, s4⟩ := hSw; have q0 := cell_of s4 0; have q1 := cell_of s4 1; go_simp; try rfl)
        try simp only [Act.put, List.setIfInBounds_toArray, List.set_cons_zero, List.set_cons_succ]
        refine AnyE.take (i := 14) (v := ?_) (ops_at rfl) (by kernel_rfl) (by kernel_rfl) (by kernel_rfl) (by kernel_rfl) (fun _ _ _ h => h) (Or.inl ⟨by rfl, ?ye14⟩) (by assumption) ?ne14
        case ye14 => (intro wS hSw; obtain ⟨s0, s1, s2, s3, s4⟩ := hSw; have q0 := cell_of s4 0; have q1 := cell_of s4 1; go_simp; try rfl)
        try simp only [Act.put, List.setIfInBounds_toArray, List.set_cons_zero, List.set_cons_succ]
        obtain ⟨w5, hw5⟩ : ∃ w5, wr.drew = w5 := ⟨_, rfl⟩
        have hb5 : Below wr.heap.size wr w5 := by rw [← hw5]; exact (Below.refl _ _).drew
        rw [hw5] at hH0 ⊢
        have hz5 := hb5.size
        clear hw5
        obtain ⟨hd0, hd1, hd2, hd3, hbk5⟩ := hH0
        have hrow5 := row_below hrow hb5
        have hB5 := hbr.trans (hb5.mono hzr)
        have HFAR5 := Lib.hid (fun (b : Nat) (h1 : b < w4.heap.size) (h2 : b ≠ v2.heap.size) => (hb5.block b (by omega)).trans (HFAR.out b h1 h2))
        refine AnyE.of_ready (rs := [15]) (by kernel_rfl) (by simp) ?_
        refine ReadyE.cons (ops_at rfl) (fun K hK => ?_) ReadyE.nil
        go_simp
        have z6 := (Below.refl w5.heap.size w5).alloc (Nat.le_refl _) (.cells #[.int .i64 r0', .int .i64 r1', .int .i64 r2', .int .i64 r3'] 44)
        have R6 := hrow5.alloc (.cells #[.int .i64 r0', .int .i64 r1', .int .i64 r2', .int .i64 r3'] 44)
        have L6 := seg_clue w5 r0' r1' r2' r3' 44
        have hbk6 := (z6.block _ (by omega)).trans hbk5
        have he80 := (z6.cell (by exact cell_lt hd0)).trans hd0
        have he81 := (z6.cell (by exact cell_lt hd1)).trans hd1
        have he82 := (z6.cell (by exact cell_lt hd2)).trans hd2
        have he83 := (z6.cell (by exact cell_lt hd3)).trans hd3
        refine hK.out _ _ (fun _ => ⟨he80, he81, he82, he83, hbk6⟩) (fun hH15 => ?_)
        clear hK K
        refine AnyE.of_ready (rs := [16]) (by kernel_rfl) (by simp) ?_
        refine ReadyE.cons (ops_at rfl) (fun K hK => ?_) ReadyE.nil
        refine step_append_flat4 _ rfl (.tmp 49) (.tmp 63) 28 rfl w4.heap.size 44 i0 Tryd.underlying28 hi0 hy0 hy1 hy2 _ k _ rfl R6 _ 1 1 [(r0', r1', r2', r3')] _ _ rfl rfl L6 (by omega) (by have := z6.size; omega) ?_
        intro vb xb hob hgb
        have hzb := hgb.size
        have hz6 := z6.size
        have hbkb := (hgb.block v2.heap.size (by omega) (fun e => by have := HLT.out v2.heap.size e.symm; omega)).trans hbk6
        refine hK.out _ _ (fun _ => ⟨hgb.cell he80 (fun e => by have := HLT.out b2 e.symm; omega), hgb.cell he81 (fun e => by have := HLT.out b2 e.symm; omega), hgb.cell he82 (fun e => by have := HLT.out b2 e.symm; omega), hgb.cell he83 (fun e => by have := HLT.out b2 e.symm; omega), hbkb⟩) (fun hH16 => ?_)
        clear hK K
        have hS16 := hH16 (by omega)
        have HF := Lib.hid (show xb.ownsRow w4.heap.size 44 4 vb (k + 1) (vals4 (cc.take (k + 1))) by rw [HNX.out, vals4_append]; exact hob)
        obtain ⟨Ab, cb, rfl⟩ := row_formQ HF.out
        have HBB := Lib.hid (((hB5.trans (z6.mono hB5.size)).grown hgb (by omega) (fun g hg => by have := HLT.out g hg; omega)).setCell (p := ⟨v2.heap.size, 1, none⟩) (by show v2.heap.size ≤ v2.heap.size; omega) (.slice Ab (k + 1) cb))
        have HFX := Lib.hid (fun (b : Nat) (h1 : b < w4.heap.size) (h2 : b ≠ v2.heap.size) => (set_far (p := ⟨v2.heap.size, 1, none⟩) xb h2 (.slice Ab (k + 1) cb)).trans ((hgb.block b (by omega) (fun e => by have := HLT.out b e.symm; omega)).trans ((z6.block b (by omega)).trans (HFAR5.out b h1 h2))))
        have HSB := Lib.hid (set_self hbkb 1 (.slice Ab (k + 1) cb))
        have hlb := HF.out.lt
        have HRB2 := Lib.hid (HF.out.kept (grown_set (World.grownBy.refl xb (some v2.heap.size)) (p := ⟨v2.heap.size, 1, none⟩) rfl (.slice Ab (k + 1) cb)) (.inr fun e => by have := hlb v2.heap.size e; omega))
        have c1 := cell_of hbkb 1
        have f1 := frozen_of hbkb 1
        simp only [List.getElem?_toArray, List.getElem?_cons_zero, List.getElem?_cons_succ] at c1
        clear hob
        refine AnyE.take (i := 17) (v := ?_) (ops_at rfl) (by kernel_rfl) (by kernel_rfl) (by kernel_rfl) (by kernel_rfl) (fun _ _ _ h => h) (Or.inl ⟨by rfl, ?yg17⟩) (by assumption) ?ng17
        case yg17 => (intro wS hSw; obtain ⟨s0, s1, s2, s3, s4⟩ := hSw; have q0 := cell_of s4 0; have q1 := cell_of s4 1; go_simp; try rfl)
        try simp only [Act.put, List.setIfInBounds_toArray, List.set_cons_zero, List.set_cons_succ]
        refine AnyE.of_ready (rs := [18]) (by kernel_rfl) (by simp) ?_
        refine ReadyE.cons (ops_at rfl) (fun K hK => ?_) ReadyE.nil
        go_simp
        refine hK.out _ _ (fun h => absurd rfl h) (fun _ => ?_)
        clear hK K
        refine AnyE.end_ (by kernel_rfl) ?_ _
        clear c1 f1 hH15 hH16 hS16
        go_wp2
        go_roundw
        case rel => exact ⟨k + 1, Ab, cb, by omega, by go_num, by simpa using HSB.out, HRB2.out, by rw [size_setR]; omega, HFX.out, HBB.out⟩
        case measure => simp [intOf]; omega
      · have hkm := Lib.hid (show k = m by omega)
        have hlt' : decide ((k : Int) < (m : Int)) = false := decide_eq_false (by omega)
        rw [List.take_of_length_le (by rw [HCL.out]; omega)] at hrow
        obtain ⟨Ao, co, ho1, hol, hoc, hoo⟩ := seg_of_row4 hrow
        injection ho1 with e1 e2 e3
        subst e1
        subst e3
        have HG := Lib.hid (show q = goodT v cc s by rw [HQ2.out, HOK.out, Bool.true_and])
        have hbx := hbk
        have hrx := hrk
        have yx := y2.trans (hbr.mono y2.size)
        clear hrow
        obtain ⟨g, hg⟩ : ∃ g, puzB v cc = g := ⟨_, rfl⟩
        have HGG := Lib.hid hg
        clear hg
        have hgx := heap_lt hbx
        have hlen6 : cc.length = k := hol
        have HL := Lib.hid hlen6
        clear hlen6
        have hTx := HT.out.below yx (Nat.le_refl _)
        obtain ⟨tx, htx⟩ : ∃ tx, somePT g (pzS v cc) = tx := ⟨_, rfl⟩
        have HTX := Lib.hid htx
        clear htx
        have q0 := cell_of hbx 0
        have q1 := cell_of hbx 1
        simp only [List.getElem?_toArray, List.getElem?_cons_zero, List.getElem?_cons_succ] at q0 q1
        go_wp2_with fail
        refine (impl_PuzzleText v Ad k cd cc _ _ _ HL.out (by omega) hoo.seg (by omega) g HGG.out hTx).mono ?_
        rw [HTX.out]
        rintro e d1 ⟨rfl, hc1⟩
        have hzc1 := hc1.size
        have hbd := (hc1.block _ hgx).trans hbx
        have hrd := (hc1.block _ (by omega)).trans hrx
        have yd := yx.trans (hc1.mono yx.size)
        have hod := hoo.below hc1 (by omega)
        clear q0 q1
        have q0 := cell_of hbd 0
        have q1 := cell_of hbd 1
        simp only [List.getElem?_toArray, List.getElem?_cons_zero, List.getElem?_cons_succ] at q0 q1
        have c0 := cell_of hrd 0
        have c1 := cell_of hrd 1
        have f0 := frozen_of hrd 0
        have f1 := frozen_of hrd 1
        simp only [List.getElem?_toArray, List.getElem?_cons_zero, List.getElem?_cons_succ] at c0 c1
        cases g
        · obtain rfl : q = false := by rw [HG.out, goodT, HGG.out, Bool.false_and]
          go_wp2_with fail
          refine bodyPost_ret (v := .tuple #[pzV 0 none 0 0, .bool false]) (by simp [results, Tryd.results11, go_sem, c0, c1]) rfl ⟨none, 0, 0, rfl, rfl, .inl rfl, ?_⟩
          exact (yd.setCell (p := ⟨w.heap.size, 0, none⟩) (Nat.le_refl _) _).setCell (p := ⟨w.heap.size, 1, none⟩) (Nat.le_refl _) _
        · have HEQ := Lib.hid (show (tx.toList == s.toList) = q by rw [HG.out, goodT, HGG.out, Bool.true_and, ← HTX.out]; rfl)
          cases q
          · have hE := HEQ.out
            go_wp2_with fail
            refine bodyPost_ret (v := .tuple #[pzV 0 none 0 0, .bool false]) (by simp [results, Tryd.results11, go_sem, c0, c1]) rfl ⟨none, 0, 0, rfl, rfl, .inl rfl, ?_⟩
            exact (yd.setCell (p := ⟨w.heap.size, 0, none⟩) (Nat.le_refl _) _).setCell (p := ⟨w.heap.size, 1, none⟩) (Nat.le_refl _) _
          · have hE := HEQ.out
            have far2 : ∀ x, x ≠ w.heap.size → ((d1.setCell ⟨w.heap.size, 0, none⟩ (.int .i64 v)).setCell ⟨w.heap.size, 1, none⟩ (.slice Ad k cd)).heap[x]? = d1.heap[x]? := fun x hx => (set_far _ hx _).trans (set_far _ hx _)
            have FAR2 := Lib.hid far2
            clear far2
            go_wp2_with fail
            refine bodyPost_ret (v := .tuple #[pzV v Ad k cd, .bool true]) (by simp [results, Tryd.results11, go_sem, c0, c1]) rfl ⟨Ad, k, cd, rfl, ?_, ?_, (yd.setCell (p := ⟨w.heap.size, 0, none⟩) (Nat.le_refl _) _).setCell (p := ⟨w.heap.size, 1, none⟩) (Nat.le_refl _) _⟩
            · show cc.length = _; exact HL.out
            · show Own _ _ _ _ (flat4 cc)
              simp only [World.size_setCell]
              exact (hod.keep (fun b hb1 hb2 => FAR2.out _ (by omega))).more (by omega) (by omega)
end Go.Proofs.YtoheoojpmndhoabDoor

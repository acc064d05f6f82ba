/-
  The checking program's puzzle of a text.
  Conditions: none.
-/
import Derived.Test.YtoheoojpmndhoabDoorTxZPure
import Derived.Test.YtoheoojpmndhoabDoorTxCut
import Derived.Test.YtoheoojpmndhoabDoorAppendFlat4
import Derived.Test.YtoheoojpmndhoabDoorClRow
import Derived.Test.YtoheoojpmndhoabDoorBdO
namespace Go.Proofs.YtoheoojpmndhoabDoor
set_option linter.unusedVariables false
set_option linter.unusedSimpArgs false
open Go.RowKit

/-- A puzzle and a bool are answered; it is told if the bool is true. -/
def RetPzP (q : Bool) (t : Int) (cs : List Clu) (w : World) (e : Ending) (w' : World) : Prop :=
  ∃ t' A n c, e = .returned (.tuple #[pzV t' A n c, .bool q]) ∧ (q = true → t' = t ∧ cs.length = n ∧ Own w' w.heap.size w'.heap.size A (flat4 cs)) ∧ Below w.heap.size w w'
theorem row_formQ {w : World} {base T n : Nat} {v : Value} {xs : List Value} (h : w.ownsRow base T 4 v n xs) : ∃ A c, v = .slice A n c := by
  rcases h.2 with ⟨hv, rfl⟩ | ⟨g, cap, cur, hv, _⟩
  · exact ⟨none, 0, hv⟩
  · exact ⟨_, cap, hv⟩
theorem splitW_pos (b : UInt8) (s : ByteArray) : 0 < (splitW b s).length := by rw [splitW, List.length_append]; simp
theorem size_setR (w : World) (p : Addr) (v : Value) : (w.setCell p v).heap.size = w.heap.size := by simp [World.setCell]
theorem list2Q {α : Type} {xs : List α} (h : xs.length = 2) : ∃ a b, xs = [a, b] := by
  match xs, h with
  | [a, b], _ => exact ⟨a, b, rfl⟩
theorem list4Q {α : Type} {xs : List α} (h : xs.length = 4) : ∃ a b c d, xs = [a, b, c, d] := by
  match xs, h with
  | [a, b, c, d], _ => exact ⟨a, b, c, d, rfl⟩

set_option maxRecDepth 100000 in
set_option maxHeartbeats 2000000 in
theorem pzParse_any (s : ByteArray) (w : World) (hmax : s.size ≤ 1048576) :
    Calls Tryd.prog 22 #[.string s] w (RetPzP (specQ s) (tS s) (clsS (tailS s)) w) := by
  obtain ⟨q, hq⟩ : ∃ q, specQ s = q := ⟨_, rfl⟩
  rw [hq]
  obtain ⟨t, htt⟩ : ∃ t, tS s = t := ⟨_, rfl⟩
  obtain ⟨cc, hcc⟩ : ∃ cc, clsS (tailS s) = cc := ⟨_, rfl⟩
  rw [htt, hcc]
  have hqq : q = ((decide (s.size ≤ 120) && decide ((splitW 116 s).length = 2)) && (okS (tailS s) && goodT t cc s)) := by rw [← hq, specQ, htt, hcc]
  obtain ⟨W, hW⟩ : ∃ W, w.alloc (.cells #[.int .i64 0, .slice none 0 0] 30) = W := ⟨_, rfl⟩
  have z0 : Below w.heap.size w W := by rw [← hW]; exact (Below.refl _ _).alloc (Nat.le_refl _) _
  have r0 : W.heap[w.heap.size]? = some (.cells #[.int .i64 0, .slice none 0 0] 30 (0, 0)) := by rw [← hW]; exact new_at _ _ rfl
  have hsz := heap_lt r0
  have HW := Lib.hid hW
  clear hW hq
  have hcs := cut_size 116 s
  have hsp := splitW_pos 116 s
  obtain ⟨ws, hws⟩ : ∃ ws, splitW 116 s = ws := ⟨_, rfl⟩
  have hhead : headS s = ws.getD 0 ⟨#[]⟩ := by rw [headS, hws]
  have htail : tailS s = ws.getD 1 ⟨#[]⟩ := by rw [tailS, hws]
  rw [htail] at hqq hcc
  rw [tS, hhead] at htt
  have hspl := l1Split_any 116 s
  rw [hws] at hspl hqq hcs hsp
  have HSP := Lib.hid hspl
  have HQQ := Lib.hid hqq
  have HTT := Lib.hid htt
  have HCC := Lib.hid hcc
  have HCS := Lib.hid hcs
  clear hspl hqq htt hcc hcs hhead htail hws
  go_enter Tryd.func22, Tryd.ntmps22
  go_wp2_with fail
  rw [HW.out]
  refine (HSP.out _ (by omega)).mono ?_
  rintro e v1 ⟨v, rfl, hown, hb1⟩
  have hz1 := hb1.size
  have y1 := z0.trans (hb1.mono z0.size)
  have r1 := (hb1.block _ hsz).trans r0
  obtain ⟨n, hn⟩ : ∃ n, ws.length = n := ⟨_, rfl⟩
  rw [hn] at hown hsp
  obtain ⟨g, cap, rfl, hg0, hg1, hcell⟩ := ownsRow_words hown hsp
  have HN := Lib.hid hn
  have HCE := Lib.hid hcell
  clear hown hcell hn
  have c0 := cell_of r1 0
  have c1 := cell_of r1 1
  have f0 := frozen_of r1 0
  have f1 := frozen_of r1 1
  simp only [List.getElem?_toArray, List.getElem?_cons_zero, List.getElem?_cons_succ] at c0 c1
  by_cases hbig : 120 < s.size
  · obtain rfl : q = false := by rw [HQQ.out, decide_eq_false (by omega), Bool.false_and, Bool.false_and]
    have hbig' : decide ((s.size : Int) > 120) = true := by simp; omega
    go_wp2_with fail
    refine bodyPost_ret (v := .tuple #[pzV 0 none 0 0, .bool false]) (by simp [results, Tryd.results22, go_sem, c0, c1]) rfl ⟨0, none, 0, 0, rfl, fun h => by (cases h), ?_⟩
    exact (y1.setCell (p := ⟨w.heap.size, 0, none⟩) (Nat.le_refl _) _).setCell (p := ⟨w.heap.size, 1, none⟩) (Nat.le_refl _) _
  have hbig' : decide ((s.size : Int) > 120) = false := by simp; omega
  by_cases h2 : n = 2
  case neg =>
    obtain rfl : q = false := by rw [HQQ.out, HN.out, decide_eq_false h2, Bool.and_false, Bool.false_and]
    have h2' : ((n : Int) != 2) = true := by simp; omega
    go_wp2_with fail
    refine bodyPost_ret (v := .tuple #[pzV 0 none 0 0, .bool false]) (by simp [results, Tryd.results22, go_sem, c0, c1]) rfl ⟨0, none, 0, 0, rfl, fun h => by (cases h), ?_⟩
    exact (y1.setCell (p := ⟨w.heap.size, 0, none⟩) (Nat.le_refl _) _).setCell (p := ⟨w.heap.size, 1, none⟩) (Nat.le_refl _) _
  subst h2
  obtain ⟨x0, x1, rfl⟩ := list2Q HN.out
  have h00 : v1.cell? ⟨g, 0, none⟩ = some (.string x0) := HCE.out 0 x0 rfl
  have h01 : v1.cell? ⟨g, 1, none⟩ = some (.string x1) := HCE.out 1 x1 rfl
  have hs0 : x0.size ≤ s.size := HCS.out x0 (by simp)
  have hs1 : x1.size ≤ s.size := HCS.out x1 (by simp)
  have TT := HTT.out
  have CC := HCC.out
  have QQ := HQQ.out
  simp only [List.getD_cons_zero, List.getD_cons_succ] at TT CC QQ
  have HQ2 := Lib.hid (show q = (okS x1 && goodT t cc s) from QQ.trans (by rw [decide_eq_true (show s.size ≤ 120 by omega)]; rfl))
  clear QQ HQQ HTT HCC HCS HCE HN HSP
  go_wp2_with fail
  refine (l1Read_any x0 _ (by omega)).mono ?_
  rintro e v2 ⟨rfl, rfl⟩
  rw [TT]
  clear TT
  obtain ⟨u1, hu1⟩ : ∃ u1, v1.alloc (.cells #[.int .i64 t, .slice none 0 0] 30) = u1 := ⟨_, rfl⟩
  have hbu : Below v1.heap.size v1 u1 := by rw [← hu1]; exact (Below.refl _ _).alloc (Nat.le_refl _) _
  have hzu : u1.heap.size = v1.heap.size + 1 := by rw [← hu1]; simp
  have hbx : u1.heap[v1.heap.size]? = some (.cells #[.int .i64 t, .slice none 0 0] 30 (0, 0)) := by rw [← hu1]; exact new_at _ _ rfl
  have hrx := (hbu.block _ (by omega)).trans r1
  have yx := y1.trans (hbu.mono y1.size)
  have HU1 := Lib.hid hu1
  clear hu1 c0 c1 f0 f1
  have h01u := (hbu.cell (p := ⟨g, 1, none⟩) (by show g < _; omega)).trans h01
  go_upto_region 5 with (fail)
  rw [HU1.out]
  have hwv : w.heap.size < v1.heap.size := by omega
  by_cases hz : x1.size = 0
  · have hz' : decide ((x1.size : Int) > 0) = false := decide_eq_false (by omega)
    have CEQ : cc = [] := by rw [← CC, clsS, if_pos hz]
    have HG := Lib.hid (show q = goodT t [] s by rw [HQ2.out, okS, decide_eq_true hz, Bool.true_or, Bool.true_and, CEQ])
    have hown0 : Own u1 u1.heap.size u1.heap.size none (flat4 []) := .inl rfl
    go_wp2_with fail
    obtain ⟨g, hg⟩ : ∃ g, puzB t ([] : List Clu) = g := ⟨_, rfl⟩
    have HGG := Lib.hid hg
    clear hg
    have hgx := heap_lt hbx
    refine wp_region_held_drew (S := (fun wq => wq.heap[v1.heap.size]? = some (.cells #[.int .i64 t, .slice none 0 0] 30 (0, 0)))) (by kernel_rfl) hbx (fun hH0 => ?_)
    refine wpAnyH_take (i := 0) (v := ?_) (ops_at rfl) (by kernel_rfl) (by kernel_rfl) (by kernel_rfl) (fun _ _ _ h => h) (Or.inl ⟨by rfl, ?yk0⟩) (by assumption) ?nk0
    case yk0 => (intro wS hSw; have q0 := cell_of hSw 0; have q1 := cell_of hSw 1; go_simp; try rfl)
    try simp only [Act.put, List.setIfInBounds_toArray, List.set_cons_zero, List.set_cons_succ]
    refine wpAnyH_take (i := 1) (v := ?_) (ops_at rfl) (by kernel_rfl) (by kernel_rfl) (by kernel_rfl) (fun _ _ _ h => h) (Or.inl ⟨by rfl, ?yk1⟩) (by assumption) ?nk1
    case yk1 => (intro wS hSw; have q0 := cell_of hSw 0; have q1 := cell_of hSw 1; go_simp; try rfl)
    try simp only [Act.put, List.setIfInBounds_toArray, List.set_cons_zero, List.set_cons_succ]
    obtain ⟨d0, hd0⟩ : ∃ d, u1.drew = d := ⟨_, rfl⟩
    have hc0 : Below u1.heap.size u1 d0 := by rw [← hd0]; exact (Below.refl _ _).drew
    rw [hd0] at hH0 ⊢
    clear hd0
    have hzc0 := hc0.size
    refine wpAnyH_ready (rs := [2]) (by kernel_rfl) (by simp) ?_
    refine AllReadyH.cons (ops_at rfl) (fun K hK => ?_) AllReadyH.nil
    go_simp
    refine (pzGood_Q t none 0 0 ([] : List Clu) _ _ _ rfl (by omega) (hown0.seg.below hc0 (by omega)) (by omega) g HGG.out).mono ?_
    rintro e d1 ⟨rfl, hc1⟩
    have hzc1 := hc1.size
    have hP1 := (hc1.block _ (by omega)).trans hH0
    have hC1 := hc0.trans (hc1.mono (by omega))
    refine hK.out _ _ hP1 (fun hH1 => ?_)
    clear hK K
    refine wpAnyH_take (i := 3) (v := ?_) (ops_at rfl) (by kernel_rfl) (by kernel_rfl) (by kernel_rfl) (fun _ _ _ h => h) (Or.inl ⟨by rfl, ?yk3⟩) (by assumption) ?nk3
    case yk3 => (intro wS hSw; have q0 := cell_of hSw 0; have q1 := cell_of hSw 1; go_simp; try rfl)
    try simp only [Act.put, List.setIfInBounds_toArray, List.set_cons_zero, List.set_cons_succ]
    cases g
    · obtain rfl : q = false := by rw [HG.out, goodT, HGG.out, Bool.false_and]
      refine wpAnyH_take (i := 4) (v := undef) (ops_at rfl) (by kernel_rfl) (by kernel_rfl) (by kernel_rfl) (fun _ _ _ h => h) (Or.inr ⟨by rfl, rfl⟩) (by assumption) ?nkf4
      try simp only [Act.put, List.setIfInBounds_toArray, List.set_cons_zero, List.set_cons_succ]
      refine wpAnyH_take (i := 5) (v := undef) (ops_at rfl) (by kernel_rfl) (by kernel_rfl) (by kernel_rfl) (fun _ _ _ h => h) (Or.inr ⟨by rfl, rfl⟩) (by assumption) ?nkf5
      try simp only [Act.put, List.setIfInBounds_toArray, List.set_cons_zero, List.set_cons_succ]
      refine wpAnyH_take (i := 6) (v := undef) (ops_at rfl) (by kernel_rfl) (by kernel_rfl) (by kernel_rfl) (fun _ _ _ h => h) (Or.inr ⟨by rfl, rfl⟩) (by assumption) ?nkf6
      try simp only [Act.put, List.setIfInBounds_toArray, List.set_cons_zero, List.set_cons_succ]
      refine wpAnyH_take (i := 7) (v := undef) (ops_at rfl) (by kernel_rfl) (by kernel_rfl) (by kernel_rfl) (fun _ _ _ h => h) (Or.inr ⟨by rfl, rfl⟩) (by assumption) ?nkf7
      try simp only [Act.put, List.setIfInBounds_toArray, List.set_cons_zero, List.set_cons_succ]
      refine wpAnyH_take (i := 8) (v := ?_) (ops_at rfl) (by kernel_rfl) (by kernel_rfl) (by kernel_rfl) (fun _ _ _ h => h) (Or.inl ⟨by rfl, ?ykf8⟩) (by assumption) ?nkf8
      case ykf8 => (intro wS hSw; have q0 := cell_of hSw 0; have q1 := cell_of hSw 1; go_simp; try rfl)
      try simp only [Act.put, List.setIfInBounds_toArray, List.set_cons_zero, List.set_cons_succ]
      have hr2 := (hC1.block _ (by omega)).trans hrx
      have c0 := cell_of hr2 0
      have c1 := cell_of hr2 1
      have f0 := frozen_of hr2 0
      have f1 := frozen_of hr2 1
      simp only [List.getElem?_toArray, List.getElem?_cons_zero, List.getElem?_cons_succ] at c0 c1
      have far2 : ∀ x, x ≠ w.heap.size → ((d1.setCell ⟨w.heap.size, 0, none⟩ (.int .i64 t)).setCell ⟨w.heap.size, 1, none⟩ (.slice none 0 0)).heap[x]? = d1.heap[x]? := fun x hx => (set_far _ hx _).trans (set_far _ hx _)
      have FAR2 := Lib.hid far2
      clear far2
      have fin := set_self (set_self hr2 0 (.int .i64 t)) 1 (.slice none 0 0)
      have FIN := Lib.hid fin
      clear fin
      refine wpAnyH_ready (rs := [9]) (by kernel_rfl) (by simp) ?_
      refine AllReadyH.cons (ops_at rfl) (fun K hK => ?_) AllReadyH.nil
      go_simp
      refine hK.out _ _ ((FAR2.out _ (by omega)).trans hP1) (fun hHs => ?_)
      clear hK K
      refine wpAnyH_take (i := 10) (v := ?_) (ops_at rfl) (by kernel_rfl) (by kernel_rfl) (by kernel_rfl) (fun _ _ _ h => h) (Or.inl ⟨by rfl, ?ykf10⟩) (by assumption) ?nkf10
      case ykf10 => (intro wS hSw; have q0 := cell_of hSw 0; have q1 := cell_of hSw 1; go_simp; try rfl)
      try simp only [Act.put, List.setIfInBounds_toArray, List.set_cons_zero, List.set_cons_succ]
      refine wpAnyH_done (by kernel_rfl) ?_ _
      go_wp2_with fail
      have yF := yx.trans (hC1.mono yx.size)
      have hzF := hC1.size
      refine bodyPost_ret (v := .tuple #[pzV t none 0 0, .bool false]) (by simp [results, Tryd.results22, go_sem, c0, c1]) rfl ⟨t, none, 0, 0, rfl, ?_, (yF.setCell (p := ⟨w.heap.size, 0, none⟩) (Nat.le_refl _) _).setCell (p := ⟨w.heap.size, 1, none⟩) (Nat.le_refl _) _⟩
      exact fun h => by cases h
    · have HE0 : q = ((pzS t ([] : List Clu)).toList == s.toList) := by rw [HG.out, goodT, HGG.out, Bool.true_and]
      have hn6 : ([] : List Clu).length ≤ 6 := (puzB_true.1 HGG.out).2.1
      have ht24 := (puzB_true.1 HGG.out).1
      have hlen6 : ([] : List Clu).length = 0 := rfl
      have HL := Lib.hid hlen6
      refine wpAnyH_take (i := 4) (v := ?_) (ops_at rfl) (by kernel_rfl) (by kernel_rfl) (by kernel_rfl) (fun _ _ _ h => h) (Or.inl ⟨by rfl, ?ykt4⟩) (by assumption) ?nkt4
      case ykt4 => (intro wS hSw; have q0 := cell_of hSw 0; have q1 := cell_of hSw 1; go_simp; try rfl)
      try simp only [Act.put, List.setIfInBounds_toArray, List.set_cons_zero, List.set_cons_succ]
      refine wpAnyH_take (i := 6) (v := ?_) (ops_at rfl) (by kernel_rfl) (by kernel_rfl) (by kernel_rfl) (fun _ _ _ h => h) (Or.inl ⟨by rfl, ?ykt6⟩) (by assumption) ?nkt6
      case ykt6 => (intro wS hSw; have q0 := cell_of hSw 0; have q1 := cell_of hSw 1; go_simp; try rfl)
      try simp only [Act.put, List.setIfInBounds_toArray, List.set_cons_zero, List.set_cons_succ]
      refine wpAnyH_ready (rs := [5]) (by kernel_rfl) (by simp) ?_
      refine AllReadyH.cons (ops_at rfl) (fun K hK => ?_) AllReadyH.nil
      go_simp
      refine (pzText_any t none 0 0 ([] : List Clu) _ _ _ HL.out (by have := HL.out; omega) (by omega) (puzB_plain HGG.out) (hown0.seg.below hC1 (by omega)) (by omega)).mono ?_
      obtain ⟨tx, htx⟩ : ∃ tx, pzS t ([] : List Clu) = tx := ⟨_, rfl⟩
      rw [htx] at HE0 ⊢
      clear htx
      rintro e d2 ⟨rfl, hc2⟩
      have hzc2 := hc2.size
      have hP2 := (hc2.block _ (by omega)).trans hP1
      have hC2 := hC1.trans (hc2.mono (by omega))
      refine hK.out _ _ hP2 (fun hH2 => ?_)
      clear hK K
      have HEQ := Lib.hid HE0
      clear HE0
      cases q
      · have hE : (tx.toList == s.toList) = false := HEQ.out.symm
        refine wpAnyH_take (i := 7) (v := ?_) (ops_at rfl) (by kernel_rfl) (by kernel_rfl) (by kernel_rfl) (fun _ _ _ h => h) (Or.inl ⟨by rfl, ?yktf7⟩) (by assumption) ?nktf7
        case yktf7 => (intro wS hSw; have q0 := cell_of hSw 0; have q1 := cell_of hSw 1; go_simp; try rfl)
        try simp only [Act.put, List.setIfInBounds_toArray, List.set_cons_zero, List.set_cons_succ]
        refine wpAnyH_take (i := 8) (v := ?_) (ops_at rfl) (by kernel_rfl) (by kernel_rfl) (by kernel_rfl) (fun _ _ _ h => h) (Or.inl ⟨by rfl, ?yktf8⟩) (by assumption) ?nktf8
        case yktf8 => (intro wS hSw; have q0 := cell_of hSw 0; have q1 := cell_of hSw 1; go_simp; try rfl)
        try simp only [Act.put, List.setIfInBounds_toArray, List.set_cons_zero, List.set_cons_succ]
        clear hE
        have hr2 := (hC2.block _ (by omega)).trans hrx
        have c0 := cell_of hr2 0
        have c1 := cell_of hr2 1
        have f0 := frozen_of hr2 0
        have f1 := frozen_of hr2 1
        simp only [List.getElem?_toArray, List.getElem?_cons_zero, List.getElem?_cons_succ] at c0 c1
        have far2 : ∀ x, x ≠ w.heap.size → ((d2.setCell ⟨w.heap.size, 0, none⟩ (.int .i64 t)).setCell ⟨w.heap.size, 1, none⟩ (.slice none 0 0)).heap[x]? = d2.heap[x]? := fun x hx => (set_far _ hx _).trans (set_far _ hx _)
        have FAR2 := Lib.hid far2
        clear far2
        have fin := set_self (set_self hr2 0 (.int .i64 t)) 1 (.slice none 0 0)
        have FIN := Lib.hid fin
        clear fin
        refine wpAnyH_ready (rs := [9]) (by kernel_rfl) (by simp) ?_
        refine AllReadyH.cons (ops_at rfl) (fun K hK => ?_) AllReadyH.nil
        go_simp
        refine hK.out _ _ ((FAR2.out _ (by omega)).trans hP2) (fun hHs => ?_)
        clear hK K
        refine wpAnyH_take (i := 10) (v := ?_) (ops_at rfl) (by kernel_rfl) (by kernel_rfl) (by kernel_rfl) (fun _ _ _ h => h) (Or.inl ⟨by rfl, ?yktf10⟩) (by assumption) ?nktf10
        case yktf10 => (intro wS hSw; have q0 := cell_of hSw 0; have q1 := cell_of hSw 1; go_simp; try rfl)
        try simp only [Act.put, List.setIfInBounds_toArray, List.set_cons_zero, List.set_cons_succ]
        refine wpAnyH_done (by kernel_rfl) ?_ _
        go_wp2_with fail
        have yF := yx.trans (hC2.mono yx.size)
        have hzF := hC2.size
        refine bodyPost_ret (v := .tuple #[pzV t none 0 0, .bool false]) (by simp [results, Tryd.results22, go_sem, c0, c1]) rfl ⟨t, none, 0, 0, rfl, ?_, (yF.setCell (p := ⟨w.heap.size, 0, none⟩) (Nat.le_refl _) _).setCell (p := ⟨w.heap.size, 1, none⟩) (Nat.le_refl _) _⟩
        exact fun h => by cases h
      · have hE : (tx.toList == s.toList) = true := HEQ.out.symm
        refine wpAnyH_take (i := 7) (v := ?_) (ops_at rfl) (by kernel_rfl) (by kernel_rfl) (by kernel_rfl) (fun _ _ _ h => h) (Or.inl ⟨by rfl, ?yktt7⟩) (by assumption) ?nktt7
        case yktt7 => (intro wS hSw; have q0 := cell_of hSw 0; have q1 := cell_of hSw 1; go_simp; try rfl)
        try simp only [Act.put, List.setIfInBounds_toArray, List.set_cons_zero, List.set_cons_succ]
        refine wpAnyH_take (i := 8) (v := ?_) (ops_at rfl) (by kernel_rfl) (by kernel_rfl) (by kernel_rfl) (fun _ _ _ h => h) (Or.inl ⟨by rfl, ?yktt8⟩) (by assumption) ?nktt8
        case yktt8 => (intro wS hSw; have q0 := cell_of hSw 0; have q1 := cell_of hSw 1; go_simp; try rfl)
        try simp only [Act.put, List.setIfInBounds_toArray, List.set_cons_zero, List.set_cons_succ]
        clear hE
        have hr2 := (hC2.block _ (by omega)).trans hrx
        have c0 := cell_of hr2 0
        have c1 := cell_of hr2 1
        have f0 := frozen_of hr2 0
        have f1 := frozen_of hr2 1
        simp only [List.getElem?_toArray, List.getElem?_cons_zero, List.getElem?_cons_succ] at c0 c1
        have far2 : ∀ x, x ≠ w.heap.size → ((d2.setCell ⟨w.heap.size, 0, none⟩ (.int .i64 t)).setCell ⟨w.heap.size, 1, none⟩ (.slice none 0 0)).heap[x]? = d2.heap[x]? := fun x hx => (set_far _ hx _).trans (set_far _ hx _)
        have FAR2 := Lib.hid far2
        clear far2
        have fin := set_self (set_self hr2 0 (.int .i64 t)) 1 (.slice none 0 0)
        have FIN := Lib.hid fin
        clear fin
        refine wpAnyH_ready (rs := [9]) (by kernel_rfl) (by simp) ?_
        refine AllReadyH.cons (ops_at rfl) (fun K hK => ?_) AllReadyH.nil
        go_simp
        refine hK.out _ _ ((FAR2.out _ (by omega)).trans hP2) (fun hHs => ?_)
        clear hK K
        refine wpAnyH_take (i := 10) (v := ?_) (ops_at rfl) (by kernel_rfl) (by kernel_rfl) (by kernel_rfl) (fun _ _ _ h => h) (Or.inl ⟨by rfl, ?yktt10⟩) (by assumption) ?nktt10
        case yktt10 => (intro wS hSw; have q0 := cell_of hSw 0; have q1 := cell_of hSw 1; go_simp; try rfl)
        try simp only [Act.put, List.setIfInBounds_toArray, List.set_cons_zero, List.set_cons_succ]
        refine wpAnyH_done (by kernel_rfl) ?_ _
        go_wp2_with fail
        have yF := yx.trans (hC2.mono yx.size)
        have hzF := hC2.size
        refine bodyPost_ret (v := .tuple #[pzV t none 0 0, .bool true]) (by simp [results, Tryd.results22, go_sem, c0, c1]) rfl ⟨t, none, 0, 0, rfl, ?_, (yF.setCell (p := ⟨w.heap.size, 0, none⟩) (Nat.le_refl _) _).setCell (p := ⟨w.heap.size, 1, none⟩) (Nat.le_refl _) _⟩
        refine fun _ => ⟨rfl, by rw [CEQ]; exact HL.out, ?_⟩
        rw [CEQ]
        simp only [World.size_setCell]
        exact ((hown0.below hC2 (by omega)).keep (fun b hb1 hb2 => FAR2.out _ (by omega))).more (by omega) (by omega)
  · have hz' : decide ((x1.size : Int) > 0) = true := decide_eq_true (by omega)
    have HSP2 := Lib.hid (l1Split_any 44 x1)
    have hcs2 := cut_size 44 x1
    have hsp2 := splitW_pos 44 x1
    obtain ⟨ys, hys⟩ : ∃ ys, splitW 44 x1 = ys := ⟨_, rfl⟩
    have HBS : cc = ys.map quadS := by rw [← CC, clsS, if_neg hz, hys]
    have hok : okS x1 = ys.all fourS := by rw [okS, decide_eq_false hz, Bool.false_or, hys]
    have HOK := Lib.hid hok
    rw [hys] at HSP2 hcs2 hsp2
    have HCS2 := Lib.hid hcs2
    have hyl : ys.length ≤ x1.size + 1 := by rw [← hys]; exact splitW_length 44 x1
    clear hok hys hcs2 CC
    go_wp2_with fail
    refine (HSP2.out _ (by omega)).mono ?_
    rintro e w4 ⟨v, rfl, hown4, hb4⟩
    have hz4 := hb4.size
    obtain ⟨m, hm⟩ : ∃ m, ys.length = m := ⟨_, rfl⟩
    rw [hm] at hown4 hsp2 hyl
    obtain ⟨g4, cap4, rfl, hg40, hg41, hcell4⟩ := ownsRow_words hown4 hsp2
    have HM := Lib.hid hm
    have HCE4 := Lib.hid hcell4
    have hbx4 := (hb4.block _ (by omega)).trans hbx
    have hrx4 := (hb4.block _ (by omega)).trans hrx
    have y4 := yx.trans (hb4.mono yx.size)
    have hB4 : Below v1.heap.size v1 w4 := hbu.trans (hb4.mono hbu.size)
    clear hown4 hcell4 hm
    skip
    obtain ⟨i0, hi0, hy0, hy1, hy2⟩ := info_parts clue_infoI
    have HCL : cc.length = m := by rw [HBS, List.length_map]; exact HM.out
    go_wp2
    clear h00 h01 h01u
    go_loopw [35] (fun i wr => ∃ (k : Nat) (Ad : Option Addr) (cd : Nat), k ≤ m ∧ i = .int .i64 (k : Int) ∧ wr.heap[v1.heap.size]? = some (.cells #[.int .i64 t, .slice Ad k cd] 30 (0, 0)) ∧ wr.ownsRow w4.heap.size 44 4 (.slice Ad k cd) k (vals4 (cc.take k)) ∧ w4.heap.size ≤ wr.heap.size ∧ (∀ b, b < w4.heap.size → b ≠ v1.heap.size → wr.heap[b]? = w4.heap[b]?) ∧ Below v1.heap.size v1 wr ∧ ∀ (j : Nat) x, j < k → ys[j]? = some x → fourS x = true) (fun i _ => m - (intOf i).toNat)
    case atStart => exact ⟨0, none, 0, Nat.zero_le _, rfl, hbx4, World.ownsRow_nil _ _ _ _, Nat.le_refl _, fun _ _ _ => rfl, hB4, fun j x hj => by omega⟩
    case round =>
      rename World => wr
      obtain ⟨k, Ad, cd, hk, rfl, hbk, hrow, hzk, hfar, hbr, hall⟩ := hrel
      have HA := Lib.hid hall
      have HFAR := Lib.hid hfar
      have hzr := hbr.size
      have hrk := (hfar w.heap.size (by omega) (by omega)).trans hrx4
      have hgk := heap_lt hbk
      clear hall hfar
      by_cases hlt : k < m
      · have hlt' : decide ((k : Int) < (m : Int)) = true := decide_eq_true (by omega)
        have hltI : (k : Int) < (m : Int) := by omega
        obtain ⟨x, hx⟩ : ∃ x, ys[k]? = some x := ⟨_, List.getElem?_eq_getElem (by rw [HM.out]; exact hlt)⟩
        have hc : wr.cell? ⟨g4, k, none⟩ = some (.string x) := (World.cell?_of_block (HFAR.out g4 (by omega) (by omega))).trans (HCE4.out k x hx)
        have hxs := HCS2.out x (List.mem_of_getElem? hx)
        have HX := Lib.hid hx
        have HBK := Lib.hid (show cc[k]? = some (quadS x) by rw [HBS, List.getElem?_map, hx]; rfl)
        have hx2 := cut_size 46 x
        have hwp := splitW_pos 46 x
        obtain ⟨p, hp⟩ : ∃ p, (splitW 46 x).length = p := ⟨_, rfl⟩
        have HPN := Lib.hid hp
        clear hx hp
        go_wp2_with fail
        refine (l1Split_any 46 x _ (by omega)).mono ?_
        rintro e w5 ⟨v2, rfl, hown2, hb5⟩
        have hz5 := hb5.size
        rw [HPN.out] at hown2 hwp
        obtain ⟨g8, cap8, rfl, hg80, hg81, hcell8⟩ := ownsRow_words hown2 hwp
        have HC8 := Lib.hid hcell8
        have hbk5 := (hb5.block _ hgk).trans hbk
        have hrk5 := (hb5.block _ (by omega)).trans hrk
        have HLT := Lib.hid hrow.lt
        have hrow5 := row_below hrow hb5
        have hB5 := hbr.trans (hb5.mono hzr)
        have HFAR5 := Lib.hid (fun (b : Nat) (h1 : b < w4.heap.size) (h2 : b ≠ v1.heap.size) => (hb5.block b (by omega)).trans (HFAR.out b h1 h2))
        clear hown2 hcell8 hrow
        by_cases hp4 : p = 4
        · subst hp4
          obtain ⟨z0', z1', z2', z3', hzz⟩ := list4Q HPN.out
          have hc80 : w5.cell? ⟨g8, 0, none⟩ = some (.string z0') := HC8.out 0 z0' (by rw [hzz]; rfl)
          have hsz0 : z0'.size ≤ 9223372036854775807 := by have := hx2 z0' (by rw [hzz]; simp); omega
          have hc81 : w5.cell? ⟨g8, 1, none⟩ = some (.string z1') := HC8.out 1 z1' (by rw [hzz]; rfl)
          have hsz1 : z1'.size ≤ 9223372036854775807 := by have := hx2 z1' (by rw [hzz]; simp); omega
          have hc82 : w5.cell? ⟨g8, 2, none⟩ = some (.string z2') := HC8.out 2 z2' (by rw [hzz]; rfl)
          have hsz2 : z2'.size ≤ 9223372036854775807 := by have := hx2 z2' (by rw [hzz]; simp); omega
          have hc83 : w5.cell? ⟨g8, 3, none⟩ = some (.string z3') := HC8.out 3 z3' (by rw [hzz]; rfl)
          have hsz3 : z3'.size ≤ 9223372036854775807 := by have := hx2 z3' (by rw [hzz]; simp); omega
          have HFW := Lib.hid (show fourS x = true by rw [fourS, hzz]; rfl)
          obtain ⟨r0', hr0'⟩ : ∃ r, readL z0'.data.toList = r := ⟨_, rfl⟩
          have HR0 := Lib.hid hr0'
          obtain ⟨r1', hr1'⟩ : ∃ r, readL z1'.data.toList = r := ⟨_, rfl⟩
          have HR1 := Lib.hid hr1'
          obtain ⟨r2', hr2'⟩ : ∃ r, readL z2'.data.toList = r := ⟨_, rfl⟩
          have HR2 := Lib.hid hr2'
          obtain ⟨r3', hr3'⟩ : ∃ r, readL z3'.data.toList = r := ⟨_, rfl⟩
          have HR3 := Lib.hid hr3'
          have HNX := Lib.hid (show cc.take (k + 1) = cc.take k ++ [(r0', r1', r2', r3')] by rw [List.take_add_one, HBK.out, quadS, hzz, ← hr0', ← hr1', ← hr2', ← hr3']; rfl)
          clear hzz hx2 hr0' hr1' hr2' hr3'
          go_wp2_with fail
          refine region_E (S := (fun wq => wq.cell? ⟨g8, 0, none⟩ = some (.string z0') ∧ wq.cell? ⟨g8, 1, none⟩ = some (.string z1') ∧ wq.cell? ⟨g8, 2, none⟩ = some (.string z2') ∧ wq.cell? ⟨g8, 3, none⟩ = some (.string z3') ∧ wq.heap[v1.heap.size]? = some (.cells #[.int .i64 t, .slice Ad k cd] 30 (0, 0)))) 22 (by kernel_rfl) ⟨hc80, hc81, hc82, hc83, hbk5⟩ (fun hH0 => ?_)
          refine AnyE.take (i := 0) (v := ?_) (ops_at rfl) (by kernel_rfl) (by kernel_rfl) (by kernel_rfl) (by kernel_rfl) (fun _ _ _ h => h) (Or.inl ⟨by rfl, ?ye0⟩) (by assumption) ?ne0
          case ye0 => (intro wS hSw; obtain ⟨s0, s1, s2, s3, s4⟩ := hSw; have q0 := cell_of s4 0; have q1 := cell_of s4 1; go_simp; try rfl)
          try simp only [Act.put, List.setIfInBounds_toArray, List.set_cons_zero, List.set_cons_succ]
          refine AnyE.take (i := 1) (v := ?_) (ops_at rfl) (by kernel_rfl) (by kernel_rfl) (by kernel_rfl) (by kernel_rfl) (fun _ _ _ h => h) (Or.inl ⟨by rfl, ?ye1⟩) (by assumption) ?ne1
          case ye1 => (intro wS hSw; obtain ⟨s0, s1, s2, s3, s4⟩ := hSw; have q0 := cell_of s4 0; have q1 := cell_of s4 1; go_simp; try rfl)
          try simp only [Act.put, List.setIfInBounds_toArray, List.set_cons_zero, List.set_cons_succ]
          refine AnyE.take (i := 2) (v := ?_) (ops_at rfl) (by kernel_rfl) (by kernel_rfl) (by kernel_rfl) (by kernel_rfl) (fun _ _ _ h => h) (Or.inl ⟨by rfl, ?ye2⟩) (by assumption) ?ne2
          case ye2 => (intro wS hSw; obtain ⟨s0, s1, s2, s3, s4⟩ := hSw; have q0 := cell_of s4 0; have q1 := cell_of s4 1; go_simp; try rfl)
          try simp only [Act.put, List.setIfInBounds_toArray, List.set_cons_zero, List.set_cons_succ]
          refine AnyE.take (i := 3) (v := ?_) (ops_at rfl) (by kernel_rfl) (by kernel_rfl) (by kernel_rfl) (by kernel_rfl) (fun _ _ _ h => h) (Or.inl ⟨by rfl, ?ye3⟩) (by assumption) ?ne3
          case ye3 => (intro wS hSw; obtain ⟨s0, s1, s2, s3, s4⟩ := hSw; have q0 := cell_of s4 0; have q1 := cell_of s4 1; go_simp; try rfl)
          try simp only [Act.put, List.setIfInBounds_toArray, List.set_cons_zero, List.set_cons_succ]
          refine AnyE.take (i := 4) (v := ?_) (ops_at rfl) (by kernel_rfl) (by kernel_rfl) (by kernel_rfl) (by kernel_rfl) (fun _ _ _ h => h) (Or.inl ⟨by rfl, ?ye4⟩) (by assumption) ?ne4
          case ye4 => (intro wS hSw; obtain ⟨s0, s1, s2, s3, s4⟩ := hSw; have q0 := cell_of s4 0; have q1 := cell_of s4 1; go_simp; try rfl)
          try simp only [Act.put, List.setIfInBounds_toArray, List.set_cons_zero, List.set_cons_succ]
          refine AnyE.take (i := 6) (v := ?_) (ops_at rfl) (by kernel_rfl) (by kernel_rfl) (by kernel_rfl) (by kernel_rfl) (fun _ _ _ h => h) (Or.inl ⟨by rfl, ?ye6⟩) (by assumption) ?ne6
          case ye6 => (intro wS hSw; obtain ⟨s0, s1, s2, s3, s4⟩ := hSw; have q0 := cell_of s4 0; have q1 := cell_of s4 1; go_simp; try rfl)
          try simp only [Act.put, List.setIfInBounds_toArray, List.set_cons_zero, List.set_cons_succ]
          refine AnyE.take (i := 7) (v := ?_) (ops_at rfl) (by kernel_rfl) (by kernel_rfl) (by kernel_rfl) (by kernel_rfl) (fun _ _ _ h => h) (Or.inl ⟨by rfl, ?ye7⟩) (by assumption) ?ne7
          case ye7 => (intro wS hSw; obtain ⟨s0, s1, s2, s3, s4⟩ := hSw; have q0 := cell_of s4 0; have q1 := cell_of s4 1; go_simp; try rfl)
          try simp only [Act.put, List.setIfInBounds_toArray, List.set_cons_zero, List.set_cons_succ]
          refine AnyE.take (i := 8) (v := ?_) (ops_at rfl) (by kernel_rfl) (by kernel_rfl) (by kernel_rfl) (by kernel_rfl) (fun _ _ _ h => h) (Or.inl ⟨by rfl, ?ye8⟩) (by assumption) ?ne8
          case ye8 => (intro wS hSw; obtain ⟨s0, s1, s2, s3, s4⟩ := hSw; have q0 := cell_of s4 0; have q1 := cell_of s4 1; go_simp; try rfl)
          try simp only [Act.put, List.setIfInBounds_toArray, List.set_cons_zero, List.set_cons_succ]
          refine AnyE.take (i := 10) (v := ?_) (ops_at rfl) (by kernel_rfl) (by kernel_rfl) (by kernel_rfl) (by kernel_rfl) (fun _ _ _ h => h) (Or.inl ⟨by rfl, ?ye10⟩) (by assumption) ?ne10
          case ye10 => (intro wS hSw; obtain ⟨s0, s1, s2, s3, s4⟩ := hSw; have q0 := cell_of s4 0; have q1 := cell_of s4 1; go_simp; try rfl)
          try simp only [Act.put, List.setIfInBounds_toArray, List.set_cons_zero, List.set_cons_succ]
          refine AnyE.take (i := 11) (v := ?_) (ops_at rfl) (by kernel_rfl) (by kernel_rfl) (by kernel_rfl) (by kernel_rfl) (fun _ _ _ h => h) (Or.inl ⟨by rfl, ?ye11⟩) (by assumption) ?ne11
          case ye11 => (intro wS hSw; obtain ⟨s0, s1, s2, s3, s4⟩ := hSw; have q0 := cell_of s4 0; have q1 := cell_of s4 1; go_simp; try rfl)
          try simp only [Act.put, List.setIfInBounds_toArray, List.set_cons_zero, List.set_cons_succ]
          refine AnyE.take (i := 12) (v := ?_) (ops_at rfl) (by kernel_rfl) (by kernel_rfl) (by kernel_rfl) (by kernel_rfl) (fun _ _ _ h => h) (Or.inl ⟨by rfl, ?ye12⟩) (by assumption) ?ne12
          case ye12 => (intro wS hSw; obtain ⟨s0, s1, s2, s3, s4⟩ := hSw; have q0 := cell_of s4 0; have q1 := cell_of s4 1; go_simp; try rfl)
          try simp only [Act.put, List.setIfInBounds_toArray, List.set_cons_zero, List.set_cons_succ]
          refine AnyE.take (i := 14) (v := ?_) (ops_at rfl) (by kernel_rfl) (by kernel_rfl) (by kernel_rfl) (by kernel_rfl) (fun _ _ _ h => h) (Or.inl ⟨by rfl, ?ye14⟩) (by assumption) ?ne14
          case ye14 => (intro wS hSw; obtain ⟨s0, s1, s2, s3, s4⟩ := hSw; have q0 := cell_of s4 0; have q1 := cell_of s4 1; go_simp; try rfl)
          try simp only [Act.put, List.setIfInBounds_toArray, List.set_cons_zero, List.set_cons_succ]
          refine AnyE.take (i := 15) (v := ?_) (ops_at rfl) (by kernel_rfl) (by kernel_rfl) (by kernel_rfl) (by kernel_rfl) (fun _ _ _ h => h) (Or.inl ⟨by rfl, ?ye15⟩) (by assumption) ?ne15
          case ye15 => (intro wS hSw; obtain ⟨s0, s1, s2, s3, s4⟩ := hSw; have q0 := cell_of s4 0; have q1 := cell_of s4 1; go_simp; try rfl)
          try simp only [Act.put, List.setIfInBounds_toArray, List.set_cons_zero, List.set_cons_succ]
          refine AnyE.take (i := 16) (v := ?_) (ops_at rfl) (by kernel_rfl) (by kernel_rfl) (by kernel_rfl) (by kernel_rfl) (fun _ _ _ h => h) (Or.inl ⟨by rfl, ?ye16⟩) (by assumption) ?ne16
          case ye16 => (intro wS hSw; obtain ⟨s0, s1, s2, s3, s4⟩ := hSw; have q0 := cell_of s4 0; have q1 := cell_of s4 1; go_simp; try rfl)
          try simp only [Act.put, List.setIfInBounds_toArray, List.set_cons_zero, List.set_cons_succ]
          refine AnyE.of_ready (rs := [5]) (by kernel_rfl) (by simp) ?_
          refine ReadyE.cons (ops_at rfl) (fun K hK => ?_) ReadyE.nil
          go_simp
          refine (l1Read_any z0' _ hsz0).mono ?_
          rintro e wb5 ⟨rfl, rfl⟩
          dsimp only
          refine hK.out _ _ (fun _ => ⟨hc80, hc81, hc82, hc83, hbk5⟩) (fun hH5 => ?_)
          clear hK K
          refine AnyE.of_ready (rs := [9]) (by kernel_rfl) (by simp) ?_
          refine ReadyE.cons (ops_at rfl) (fun K hK => ?_) ReadyE.nil
          go_simp
          refine (l1Read_any z1' _ hsz1).mono ?_
          rintro e wb9 ⟨rfl, rfl⟩
          dsimp only
          refine hK.out _ _ (fun _ => ⟨hc80, hc81, hc82, hc83, hbk5⟩) (fun hH9 => ?_)
          clear hK K
          refine AnyE.of_ready (rs := [13]) (by kernel_rfl) (by simp) ?_
          refine ReadyE.cons (ops_at rfl) (fun K hK => ?_) ReadyE.nil
          go_simp
          refine (l1Read_any z2' _ hsz2).mono ?_
          rintro e wb13 ⟨rfl, rfl⟩
          dsimp only
          refine hK.out _ _ (fun _ => ⟨hc80, hc81, hc82, hc83, hbk5⟩) (fun hH13 => ?_)
          clear hK K
          refine AnyE.of_ready (rs := [17]) (by kernel_rfl) (by simp) ?_
          refine ReadyE.cons (ops_at rfl) (fun K hK => ?_) ReadyE.nil
          go_simp
          refine (l1Read_any z3' _ hsz3).mono ?_
          rintro e wb17 ⟨rfl, rfl⟩
          dsimp only
          refine hK.out _ _ (fun _ => ⟨hc80, hc81, hc82, hc83, hbk5⟩) (fun hH17 => ?_)
          clear hK K
          refine AnyE.take (i := 18) (v := .agg #[.int .i64 r0', .int .i64 r1', .int .i64 r2', .int .i64 r3']) (ops_at rfl) (by kernel_rfl) (by kernel_rfl) (by kernel_rfl) (by kernel_rfl) (fun _ _ _ h => h) (Or.inl ⟨by rfl, ?ye18⟩) (by assumption) ?ne18
          case ye18 => (intro wS hSw; obtain ⟨s0, s1, s2, s3, s4⟩ := hSw; have q0 := cell_of s4 0; have q1 := cell_of s4 1; rw [HR0.out, HR1.out, HR2.out, HR3.out]; go_simp; try rfl)
          try simp only [Act.put, List.setIfInBounds_toArray, List.set_cons_zero, List.set_cons_succ]
          refine AnyE.of_ready (rs := [19]) (by kernel_rfl) (by simp) ?_
          refine ReadyE.cons (ops_at rfl) (fun K hK => ?_) ReadyE.nil
          go_simp
          have z6 := ((Below.refl w5.heap.size w5).alloc (Nat.le_refl _) (.cells #[.int .i64 r0', .int .i64 r1', .int .i64 r2', .int .i64 r3'] 44)).drew
          have R6 := hrow5.alloc (.cells #[.int .i64 r0', .int .i64 r1', .int .i64 r2', .int .i64 r3'] 44)
          have L6 := seg_clue w5 r0' r1' r2' r3' 44
          have hbk6 := (z6.block _ (by omega)).trans hbk5
          have hd80 := (z6.cell (by exact cell_lt hc80)).trans hc80
          have hd81 := (z6.cell (by exact cell_lt hc81)).trans hc81
          have hd82 := (z6.cell (by exact cell_lt hc82)).trans hc82
          have hd83 := (z6.cell (by exact cell_lt hc83)).trans hc83
          refine hK.out _ _ (fun _ => ⟨hd80, hd81, hd82, hd83, hbk6⟩) (fun hH19 => ?_)
          clear hK K
          refine AnyE.of_ready (rs := [20]) (by kernel_rfl) (by simp) ?_
          refine ReadyE.cons (ops_at rfl) (fun K hK => ?_) ReadyE.nil
          refine step_append_flat4 _ rfl (.tmp 46) (.tmp 64) 28 rfl w4.heap.size 44 i0 Tryd.underlying28 hi0 hy0 hy1 hy2 _ k _ rfl R6 _ 1 1 [(r0', r1', r2', r3')] _ _ rfl rfl L6 (by omega) (by have := z6.size; omega) ?_
          intro vb xb hob hgb
          have hzb := hgb.size
          have hz6 := z6.size
          have hbkb := (hgb.block v1.heap.size (by omega) (fun e => by have := HLT.out v1.heap.size e.symm; omega)).trans hbk6
          refine hK.out _ _ (fun _ => ⟨hgb.cell hd80 (fun e => by have := HLT.out g8 e.symm; omega), hgb.cell hd81 (fun e => by have := HLT.out g8 e.symm; omega), hgb.cell hd82 (fun e => by have := HLT.out g8 e.symm; omega), hgb.cell hd83 (fun e => by have := HLT.out g8 e.symm; omega), hbkb⟩) (fun hH20 => ?_)
          clear hK K
          have HF := Lib.hid (show xb.ownsRow w4.heap.size 44 4 vb (k + 1) (vals4 (cc.take (k + 1))) by rw [HNX.out, vals4_append]; exact hob)
          obtain ⟨Ab, cb, rfl⟩ := row_formQ HF.out
          have HBB := Lib.hid (((hB5.trans (z6.mono hB5.size)).grown hgb (by omega) (fun g hg => by have := HLT.out g hg; omega)).setCell (p := ⟨v1.heap.size, 1, none⟩) (by show v1.heap.size ≤ v1.heap.size; omega) (.slice Ab (k + 1) cb))
          have HFX := Lib.hid (fun (b : Nat) (h1 : b < w4.heap.size) (h2 : b ≠ v1.heap.size) => (set_far (p := ⟨v1.heap.size, 1, none⟩) xb h2 (.slice Ab (k + 1) cb)).trans ((hgb.block b (by omega) (fun e => by have := HLT.out b e.symm; omega)).trans ((z6.block b (by omega)).trans (HFAR5.out b h1 h2))))
          have HSB := Lib.hid (set_self hbkb 1 (.slice Ab (k + 1) cb))
          have hlb := HF.out.lt
          have HRB := Lib.hid (HF.out.kept (grown_set (World.grownBy.refl xb (some v1.heap.size)) (p := ⟨v1.heap.size, 1, none⟩) rfl (.slice Ab (k + 1) cb)) (.inr fun e => by have := hlb v1.heap.size e; omega))
          have c1 := cell_of hbkb 1
          have f1 := frozen_of hbkb 1
          simp only [List.getElem?_toArray, List.getElem?_cons_zero, List.getElem?_cons_succ] at c1
          clear hob
          have hS20 := hH20 (by omega)
          refine AnyE.take (i := 21) (v := ?_) (ops_at rfl) (by kernel_rfl) (by kernel_rfl) (by kernel_rfl) (by kernel_rfl) (fun _ _ _ h => h) (Or.inl ⟨by rfl, ?yg21⟩) (by assumption) ?ng21
          case yg21 => (intro wS hSw; obtain ⟨s0, s1, s2, s3, s4⟩ := hSw; have q0 := cell_of s4 0; have q1 := cell_of s4 1; go_simp; try rfl)
          try simp only [Act.put, List.setIfInBounds_toArray, List.set_cons_zero, List.set_cons_succ]
          refine AnyE.of_ready (rs := [22]) (by kernel_rfl) (by simp) ?_
          refine ReadyE.cons (ops_at rfl) (fun K hK => ?_) ReadyE.nil
          go_simp
          refine hK.out _ _ (fun h => absurd rfl h) (fun _ => ?_)
          clear hK K
          refine AnyE.end_ (by kernel_rfl) ?_ _
          clear c1 f1 hH0 hH5 hH9 hH13 hH17 hH19 hH20 hS20
          go_wp2
          go_roundw
          case rel =>
            refine ⟨k + 1, Ab, cb, by omega, by go_num, by simpa using HSB.out, HRB.out, by rw [size_setR]; omega, HFX.out, HBB.out, fun j y hj hy => ?_⟩
            by_cases ej : j = k
            · subst ej; rw [HX.out] at hy; injection hy with hy; subst hy; exact HFW.out
            · exact HA.out j y (by omega) hy
          case measure => simp [intOf]; omega
        · obtain rfl : q = false := by rw [HQ2.out, HOK.out, List.all_eq_false.2 ⟨x, List.mem_of_getElem? HX.out, by rw [fourS, HPN.out, decide_eq_false hp4]; exact Bool.false_ne_true⟩, Bool.false_and]
          have hp4' : ((p : Int) != 4) = true := by simp; omega
          have y5 := y1.trans (hB5.mono y1.size)
          have c0 := cell_of hrk5 0
          have c1 := cell_of hrk5 1
          have f0 := frozen_of hrk5 0
          have f1 := frozen_of hrk5 1
          simp only [List.getElem?_toArray, List.getElem?_cons_zero, List.getElem?_cons_succ] at c0 c1
          clear hx2
          go_wp2_with fail
          refine bodyPost_ret (v := .tuple #[pzV 0 none 0 0, .bool false]) (by simp [results, Tryd.results22, go_sem, c0, c1]) rfl ⟨0, none, 0, 0, rfl, fun h => by (cases h), ?_⟩
          exact (y5.setCell (p := ⟨w.heap.size, 0, none⟩) (Nat.le_refl _) _).setCell (p := ⟨w.heap.size, 1, none⟩) (Nat.le_refl _) _
      · have hkm := Lib.hid (show k = m by omega)
        have hlt' : decide ((k : Int) < (m : Int)) = false := decide_eq_false (by omega)
        have hallt : ys.all fourS = true := List.all_eq_true.2 fun x hx => by obtain ⟨j, hj⟩ := List.getElem?_of_mem hx; exact HA.out j x (by have := (List.getElem?_eq_some_iff.1 hj).1; have := HM.out; omega) hj
        rw [List.take_of_length_le (by omega)] at hrow
        obtain ⟨Ao, co, ho1, hol, hoc, hoo⟩ := seg_of_row4 hrow
        injection ho1 with e1 e2 e3
        subst e1
        subst e3
        have HG := Lib.hid (show q = goodT t cc s by rw [HQ2.out, HOK.out, hallt, Bool.true_and])
        have hbx := hbk
        have hrx := hrk
        have yx := y1.trans (hbr.mono y1.size)
        clear hrow hallt
        go_wp2_with fail
        obtain ⟨g, hg⟩ : ∃ g, puzB t cc = g := ⟨_, rfl⟩
        have HGG := Lib.hid hg
        clear hg
        have hgx := heap_lt hbx
        refine wp_region_held_drew (S := (fun wq => wq.heap[v1.heap.size]? = some (.cells #[.int .i64 t, .slice Ad k cd] 30 (0, 0)))) (by kernel_rfl) hbx (fun hH0 => ?_)
        refine wpAnyH_take (i := 0) (v := ?_) (ops_at rfl) (by kernel_rfl) (by kernel_rfl) (by kernel_rfl) (fun _ _ _ h => h) (Or.inl ⟨by rfl, ?ym0⟩) (by assumption) ?nm0
        case ym0 => (intro wS hSw; have q0 := cell_of hSw 0; have q1 := cell_of hSw 1; go_simp; try rfl)
        try simp only [Act.put, List.setIfInBounds_toArray, List.set_cons_zero, List.set_cons_succ]
        refine wpAnyH_take (i := 1) (v := ?_) (ops_at rfl) (by kernel_rfl) (by kernel_rfl) (by kernel_rfl) (fun _ _ _ h => h) (Or.inl ⟨by rfl, ?ym1⟩) (by assumption) ?nm1
        case ym1 => (intro wS hSw; have q0 := cell_of hSw 0; have q1 := cell_of hSw 1; go_simp; try rfl)
        try simp only [Act.put, List.setIfInBounds_toArray, List.set_cons_zero, List.set_cons_succ]
        obtain ⟨d0, hd0⟩ : ∃ d, wr.drew = d := ⟨_, rfl⟩
        have hc0 : Below wr.heap.size wr d0 := by rw [← hd0]; exact (Below.refl _ _).drew
        rw [hd0] at hH0 ⊢
        clear hd0
        have hzc0 := hc0.size
        refine wpAnyH_ready (rs := [2]) (by kernel_rfl) (by simp) ?_
        refine AllReadyH.cons (ops_at rfl) (fun K hK => ?_) AllReadyH.nil
        go_simp
        refine (pzGood_Q t Ad k cd cc _ _ _ hol (by omega) (hoo.seg.below hc0 (by omega)) (by omega) g HGG.out).mono ?_
        rintro e d1 ⟨rfl, hc1⟩
        have hzc1 := hc1.size
        have hP1 := (hc1.block _ (by omega)).trans hH0
        have hC1 := hc0.trans (hc1.mono (by omega))
        refine hK.out _ _ hP1 (fun hH1 => ?_)
        clear hK K
        refine wpAnyH_take (i := 3) (v := ?_) (ops_at rfl) (by kernel_rfl) (by kernel_rfl) (by kernel_rfl) (fun _ _ _ h => h) (Or.inl ⟨by rfl, ?ym3⟩) (by assumption) ?nm3
        case ym3 => (intro wS hSw; have q0 := cell_of hSw 0; have q1 := cell_of hSw 1; go_simp; try rfl)
        try simp only [Act.put, List.setIfInBounds_toArray, List.set_cons_zero, List.set_cons_succ]
        cases g
        · obtain rfl : q = false := by rw [HG.out, goodT, HGG.out, Bool.false_and]
          refine wpAnyH_take (i := 4) (v := undef) (ops_at rfl) (by kernel_rfl) (by kernel_rfl) (by kernel_rfl) (fun _ _ _ h => h) (Or.inr ⟨by rfl, rfl⟩) (by assumption) ?nmf4
          try simp only [Act.put, List.setIfInBounds_toArray, List.set_cons_zero, List.set_cons_succ]
          refine wpAnyH_take (i := 5) (v := undef) (ops_at rfl) (by kernel_rfl) (by kernel_rfl) (by kernel_rfl) (fun _ _ _ h => h) (Or.inr ⟨by rfl, rfl⟩) (by assumption) ?nmf5
          try simp only [Act.put, List.setIfInBounds_toArray, List.set_cons_zero, List.set_cons_succ]
          refine wpAnyH_take (i := 6) (v := undef) (ops_at rfl) (by kernel_rfl) (by kernel_rfl) (by kernel_rfl) (fun _ _ _ h => h) (Or.inr ⟨by rfl, rfl⟩) (by assumption) ?nmf6
          try simp only [Act.put, List.setIfInBounds_toArray, List.set_cons_zero, List.set_cons_succ]
          refine wpAnyH_take (i := 7) (v := undef) (ops_at rfl) (by kernel_rfl) (by kernel_rfl) (by kernel_rfl) (fun _ _ _ h => h) (Or.inr ⟨by rfl, rfl⟩) (by assumption) ?nmf7
          try simp only [Act.put, List.setIfInBounds_toArray, List.set_cons_zero, List.set_cons_succ]
          refine wpAnyH_take (i := 8) (v := ?_) (ops_at rfl) (by kernel_rfl) (by kernel_rfl) (by kernel_rfl) (fun _ _ _ h => h) (Or.inl ⟨by rfl, ?ymf8⟩) (by assumption) ?nmf8
          case ymf8 => (intro wS hSw; have q0 := cell_of hSw 0; have q1 := cell_of hSw 1; go_simp; try rfl)
          try simp only [Act.put, List.setIfInBounds_toArray, List.set_cons_zero, List.set_cons_succ]
          have hr2 := (hC1.block _ (by omega)).trans hrx
          have c0 := cell_of hr2 0
          have c1 := cell_of hr2 1
          have f0 := frozen_of hr2 0
          have f1 := frozen_of hr2 1
          simp only [List.getElem?_toArray, List.getElem?_cons_zero, List.getElem?_cons_succ] at c0 c1
          have far2 : ∀ x, x ≠ w.heap.size → ((d1.setCell ⟨w.heap.size, 0, none⟩ (.int .i64 t)).setCell ⟨w.heap.size, 1, none⟩ (.slice Ad k cd)).heap[x]? = d1.heap[x]? := fun x hx => (set_far _ hx _).trans (set_far _ hx _)
          have FAR2 := Lib.hid far2
          clear far2
          have fin := set_self (set_self hr2 0 (.int .i64 t)) 1 (.slice Ad k cd)
          have FIN := Lib.hid fin
          clear fin
          refine wpAnyH_ready (rs := [9]) (by kernel_rfl) (by simp) ?_
          refine AllReadyH.cons (ops_at rfl) (fun K hK => ?_) AllReadyH.nil
          go_simp
          refine hK.out _ _ ((FAR2.out _ (by omega)).trans hP1) (fun hHs => ?_)
          clear hK K
          refine wpAnyH_take (i := 10) (v := ?_) (ops_at rfl) (by kernel_rfl) (by kernel_rfl) (by kernel_rfl) (fun _ _ _ h => h) (Or.inl ⟨by rfl, ?ymf10⟩) (by assumption) ?nmf10
          case ymf10 => (intro wS hSw; have q0 := cell_of hSw 0; have q1 := cell_of hSw 1; go_simp; try rfl)
          try simp only [Act.put, List.setIfInBounds_toArray, List.set_cons_zero, List.set_cons_succ]
          refine wpAnyH_done (by kernel_rfl) ?_ _
          go_wp2_with fail
          have yF := yx.trans (hC1.mono yx.size)
          have hzF := hC1.size
          refine bodyPost_ret (v := .tuple #[pzV t Ad k cd, .bool false]) (by simp [results, Tryd.results22, go_sem, c0, c1]) rfl ⟨t, Ad, k, cd, rfl, ?_, (yF.setCell (p := ⟨w.heap.size, 0, none⟩) (Nat.le_refl _) _).setCell (p := ⟨w.heap.size, 1, none⟩) (Nat.le_refl _) _⟩
          exact fun h => by cases h
        · have HE0 : q = ((pzS t cc).toList == s.toList) := by rw [HG.out, goodT, HGG.out, Bool.true_and]
          have hn6 : cc.length ≤ 6 := (puzB_true.1 HGG.out).2.1
          have ht24 := (puzB_true.1 HGG.out).1
          have hlen6 : cc.length = k := hol
          have HL := Lib.hid hlen6
          refine wpAnyH_take (i := 4) (v := ?_) (ops_at rfl) (by kernel_rfl) (by kernel_rfl) (by kernel_rfl) (fun _ _ _ h => h) (Or.inl ⟨by rfl, ?ymt4⟩) (by assumption) ?nmt4
          case ymt4 => (intro wS hSw; have q0 := cell_of hSw 0; have q1 := cell_of hSw 1; go_simp; try rfl)
          try simp only [Act.put, List.setIfInBounds_toArray, List.set_cons_zero, List.set_cons_succ]
          refine wpAnyH_take (i := 6) (v := ?_) (ops_at rfl) (by kernel_rfl) (by kernel_rfl) (by kernel_rfl) (fun _ _ _ h => h) (Or.inl ⟨by rfl, ?ymt6⟩) (by assumption) ?nmt6
          case ymt6 => (intro wS hSw; have q0 := cell_of hSw 0; have q1 := cell_of hSw 1; go_simp; try rfl)
          try simp only [Act.put, List.setIfInBounds_toArray, List.set_cons_zero, List.set_cons_succ]
          refine wpAnyH_ready (rs := [5]) (by kernel_rfl) (by simp) ?_
          refine AllReadyH.cons (ops_at rfl) (fun K hK => ?_) AllReadyH.nil
          go_simp
          refine (pzText_any t Ad k cd cc _ _ _ HL.out (by have := HL.out; omega) (by omega) (puzB_plain HGG.out) (hoo.seg.below hC1 (by omega)) (by omega)).mono ?_
          obtain ⟨tx, htx⟩ : ∃ tx, pzS t cc = tx := ⟨_, rfl⟩
          rw [htx] at HE0 ⊢
          clear htx
          rintro e d2 ⟨rfl, hc2⟩
          have hzc2 := hc2.size
          have hP2 := (hc2.block _ (by omega)).trans hP1
          have hC2 := hC1.trans (hc2.mono (by omega))
          refine hK.out _ _ hP2 (fun hH2 => ?_)
          clear hK K
          have HEQ := Lib.hid HE0
          clear HE0
          cases q
          · have hE : (tx.toList == s.toList) = false := HEQ.out.symm
            refine wpAnyH_take (i := 7) (v := ?_) (ops_at rfl) (by kernel_rfl) (by kernel_rfl) (by kernel_rfl) (fun _ _ _ h => h) (Or.inl ⟨by rfl, ?ymtf7⟩) (by assumption) ?nmtf7
            case ymtf7 => (intro wS hSw; have q0 := cell_of hSw 0; have q1 := cell_of hSw 1; go_simp; try rfl)
            try simp only [Act.put, List.setIfInBounds_toArray, List.set_cons_zero, List.set_cons_succ]
            refine wpAnyH_take (i := 8) (v := ?_) (ops_at rfl) (by kernel_rfl) (by kernel_rfl) (by kernel_rfl) (fun _ _ _ h => h) (Or.inl ⟨by rfl, ?ymtf8⟩) (by assumption) ?nmtf8
            case ymtf8 => (intro wS hSw; have q0 := cell_of hSw 0; have q1 := cell_of hSw 1; go_simp; try rfl)
            try simp only [Act.put, List.setIfInBounds_toArray, List.set_cons_zero, List.set_cons_succ]
            clear hE
            have hr2 := (hC2.block _ (by omega)).trans hrx
            have c0 := cell_of hr2 0
            have c1 := cell_of hr2 1
            have f0 := frozen_of hr2 0
            have f1 := frozen_of hr2 1
            simp only [List.getElem?_toArray, List.getElem?_cons_zero, List.getElem?_cons_succ] at c0 c1
            have far2 : ∀ x, x ≠ w.heap.size → ((d2.setCell ⟨w.heap.size, 0, none⟩ (.int .i64 t)).setCell ⟨w.heap.size, 1, none⟩ (.slice Ad k cd)).heap[x]? = d2.heap[x]? := fun x hx => (set_far _ hx _).trans (set_far _ hx _)
            have FAR2 := Lib.hid far2
            clear far2
            have fin := set_self (set_self hr2 0 (.int .i64 t)) 1 (.slice Ad k cd)
            have FIN := Lib.hid fin
            clear fin
            refine wpAnyH_ready (rs := [9]) (by kernel_rfl) (by simp) ?_
            refine AllReadyH.cons (ops_at rfl) (fun K hK => ?_) AllReadyH.nil
            go_simp
            refine hK.out _ _ ((FAR2.out _ (by omega)).trans hP2) (fun hHs => ?_)
            clear hK K
            refine wpAnyH_take (i := 10) (v := ?_) (ops_at rfl) (by kernel_rfl) (by kernel_rfl) (by kernel_rfl) (fun _ _ _ h => h) (Or.inl ⟨by rfl, ?ymtf10⟩) (by assumption) ?nmtf10
            case ymtf10 => (intro wS hSw; have q0 := cell_of hSw 0; have q1 := cell_of hSw 1; go_simp; try rfl)
            try simp only [Act.put, List.setIfInBounds_toArray, List.set_cons_zero, List.set_cons_succ]
            refine wpAnyH_done (by kernel_rfl) ?_ _
            go_wp2_with fail
            have yF := yx.trans (hC2.mono yx.size)
            have hzF := hC2.size
            refine bodyPost_ret (v := .tuple #[pzV t Ad k cd, .bool false]) (by simp [results, Tryd.results22, go_sem, c0, c1]) rfl ⟨t, Ad, k, cd, rfl, ?_, (yF.setCell (p := ⟨w.heap.size, 0, none⟩) (Nat.le_refl _) _).setCell (p := ⟨w.heap.size, 1, none⟩) (Nat.le_refl _) _⟩
            exact fun h => by cases h
          · have hE : (tx.toList == s.toList) = true := HEQ.out.symm
            refine wpAnyH_take (i := 7) (v := ?_) (ops_at rfl) (by kernel_rfl) (by kernel_rfl) (by kernel_rfl) (fun _ _ _ h => h) (Or.inl ⟨by rfl, ?ymtt7⟩) (by assumption) ?nmtt7
            case ymtt7 => (intro wS hSw; have q0 := cell_of hSw 0; have q1 := cell_of hSw 1; go_simp; try rfl)
            try simp only [Act.put, List.setIfInBounds_toArray, List.set_cons_zero, List.set_cons_succ]
            refine wpAnyH_take (i := 8) (v := ?_) (ops_at rfl) (by kernel_rfl) (by kernel_rfl) (by kernel_rfl) (fun _ _ _ h => h) (Or.inl ⟨by rfl, ?ymtt8⟩) (by assumption) ?nmtt8
            case ymtt8 => (intro wS hSw; have q0 := cell_of hSw 0; have q1 := cell_of hSw 1; go_simp; try rfl)
            try simp only [Act.put, List.setIfInBounds_toArray, List.set_cons_zero, List.set_cons_succ]
            clear hE
            have hr2 := (hC2.block _ (by omega)).trans hrx
            have c0 := cell_of hr2 0
            have c1 := cell_of hr2 1
            have f0 := frozen_of hr2 0
            have f1 := frozen_of hr2 1
            simp only [List.getElem?_toArray, List.getElem?_cons_zero, List.getElem?_cons_succ] at c0 c1
            have far2 : ∀ x, x ≠ w.heap.size → ((d2.setCell ⟨w.heap.size, 0, none⟩ (.int .i64 t)).setCell ⟨w.heap.size, 1, none⟩ (.slice Ad k cd)).heap[x]? = d2.heap[x]? := fun x hx => (set_far _ hx _).trans (set_far _ hx _)
            have FAR2 := Lib.hid far2
            clear far2
            have fin := set_self (set_self hr2 0 (.int .i64 t)) 1 (.slice Ad k cd)
            have FIN := Lib.hid fin
            clear fin
            refine wpAnyH_ready (rs := [9]) (by kernel_rfl) (by simp) ?_
            refine AllReadyH.cons (ops_at rfl) (fun K hK => ?_) AllReadyH.nil
            go_simp
            refine hK.out _ _ ((FAR2.out _ (by omega)).trans hP2) (fun hHs => ?_)
            clear hK K
            refine wpAnyH_take (i := 10) (v := ?_) (ops_at rfl) (by kernel_rfl) (by kernel_rfl) (by kernel_rfl) (fun _ _ _ h => h) (Or.inl ⟨by rfl, ?ymtt10⟩) (by assumption) ?nmtt10
            case ymtt10 => (intro wS hSw; have q0 := cell_of hSw 0; have q1 := cell_of hSw 1; go_simp; try rfl)
            try simp only [Act.put, List.setIfInBounds_toArray, List.set_cons_zero, List.set_cons_succ]
            refine wpAnyH_done (by kernel_rfl) ?_ _
            go_wp2_with fail
            have yF := yx.trans (hC2.mono yx.size)
            have hzF := hC2.size
            refine bodyPost_ret (v := .tuple #[pzV t Ad k cd, .bool true]) (by simp [results, Tryd.results22, go_sem, c0, c1]) rfl ⟨t, Ad, k, cd, rfl, ?_, (yF.setCell (p := ⟨w.heap.size, 0, none⟩) (Nat.le_refl _) _).setCell (p := ⟨w.heap.size, 1, none⟩) (Nat.le_refl _) _⟩
            refine fun _ => ⟨rfl, by exact HL.out, ?_⟩
            skip
            simp only [World.size_setCell]
            exact ((hoo.below hC2 (by omega)).keep (fun b hb1 hb2 => FAR2.out _ (by omega))).more (by omega) (by omega)

set_option maxHeartbeats 2000000 in
theorem spec_ParsePuzzle (s : ByteArray) (w : World) (hmax : s.size ≤ 1048576) (q : Bool) (hq : specQ s = q) :
    Calls Tryd.prog 10 #[.string s] w (RetU q (intU q (tS s)) (listU q (clsS (tailS s))) w) := by
  obtain ⟨W, hW⟩ : ∃ W, w.alloc (.cells #[.int .i64 0, .slice none 0 0] 30) = W := ⟨_, rfl⟩
  have z0 : Below w.heap.size w W := by rw [← hW]; exact (Below.refl _ _).alloc (Nat.le_refl _) _
  have r0 : W.heap[w.heap.size]? = some (.cells #[.int .i64 0, .slice none 0 0] 30 (0, 0)) := by rw [← hW]; exact new_at _ _ rfl
  have hsz := heap_lt r0
  have HW := Lib.hid hW
  have HP := Lib.hid (pzParse_any s)
  rw [hq] at HP
  clear hW hq
  go_enter Tryd.func10, Tryd.ntmps10
  go_wp2_with fail
  rw [HW.out]
  refine (HP.out W hmax).mono ?_
  rintro e v1 ⟨t', A, n, c, rfl, hg, hb1⟩
  have hz1 := hb1.size
  obtain ⟨u1, hu1⟩ : ∃ u1, v1.alloc (.cells #[.int .i64 t', .slice A n c] 30) = u1 := ⟨_, rfl⟩
  have hbu : Below v1.heap.size v1 u1 := by rw [← hu1]; exact (Below.refl _ _).alloc (Nat.le_refl _) _
  have hbx : u1.heap[v1.heap.size]? = some (.cells #[.int .i64 t', .slice A n c] 30 (0, 0)) := by rw [← hu1]; exact new_at _ _ rfl
  have r1 := (hbu.block _ (by omega)).trans ((hb1.block _ hsz).trans r0)
  have y1 := z0.trans ((hb1.trans (hbu.mono hz1)).mono z0.size)
  have HU := Lib.hid hu1
  have hzu := heap_lt hbx
  clear hu1
  have q0 := cell_of hbx 0
  have q1 := cell_of hbx 1
  have c0 := cell_of r1 0
  have c1 := cell_of r1 1
  have f0 := frozen_of r1 0
  have f1 := frozen_of r1 1
  simp only [List.getElem?_toArray, List.getElem?_cons_zero, List.getElem?_cons_succ] at q0 q1 c0 c1
  have hwv : w.heap.size < v1.heap.size := by omega
  go_upto_region 2 with (fail)
  rw [HU.out]
  cases q
  · go_wp2_with fail
    refine bodyPost_ret (v := .tuple #[pzV 0 none 0 0, .bool false]) (by simp [results, Tryd.results10, go_sem, c0, c1]) rfl ⟨none, 0, 0, rfl, rfl, .inl rfl, ?_⟩
    exact (y1.setCell (p := ⟨w.heap.size, 0, none⟩) (Nat.le_refl _) _).setCell (p := ⟨w.heap.size, 1, none⟩) (Nat.le_refl _) _
  · obtain ⟨rfl, hl, ho⟩ := hg rfl
    have HL := Lib.hid hl
    clear hl
    have far2 : ∀ x, x ≠ w.heap.size → ((u1.setCell ⟨w.heap.size, 0, none⟩ (.int .i64 (tS s))).setCell ⟨w.heap.size, 1, none⟩ (.slice A n c)).heap[x]? = u1.heap[x]? := fun x hx => (set_far _ hx _).trans (set_far _ hx _)
    have HOW := Lib.hid (ho.below hbu (Nat.le_refl _))
    go_wp2_with fail
    refine bodyPost_ret (v := .tuple #[pzV (tS s) A n c, .bool true]) (by simp [results, Tryd.results10, go_sem, c0, c1]) rfl ⟨A, n, c, rfl, by simpa [listU] using HL.out, ?_, (y1.setCell (p := ⟨w.heap.size, 0, none⟩) (Nat.le_refl _) _).setCell (p := ⟨w.heap.size, 1, none⟩) (Nat.le_refl _) _⟩
    simp only [World.size_setCell]
    show Own _ _ _ _ (flat4 (clsS (tailS s)))
    exact (HOW.out.keep (fun b hb1 hb2 => far2 _ (by omega))).more (by omega) (by omega)
end Go.Proofs.YtoheoojpmndhoabDoor

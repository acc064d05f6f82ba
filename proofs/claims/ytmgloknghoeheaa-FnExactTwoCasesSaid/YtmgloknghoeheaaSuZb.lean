/-
  The visitor of the written program's walk for two suitcases.
  Conditions: at most ten items, and room of at most 4000.
-/
import Derived.Test.YtmgloknghoeheaaSuZa
namespace Go.Proofs.Ytmgloknghoeheaa
set_option linter.unusedVariables false
open Go.RowKit

set_option maxRecDepth 100000 in
set_option maxHeartbeats 8000000 in
theorem visit_two (q0 q1 q2 : Nat) (A : Option Addr) (n c : Nat) (ts : List (Int × Int × Int)) (W B : Int) (lo hi P0 b0 : Nat) (X Y : Int) (hn : ts.length = n) (hg : OkI ts) (h0 : q0 < P0) (h1 : q1 < P0) (h2 : q2 < P0) (h02 : q0 ≠ q2) (h12 : q1 ≠ q2) (hb0 : b0 ≤ q2) (hib : hi ≤ b0) (hX : 0 ≤ X ∧ X ≤ 4000) (hY : 0 ≤ Y ∧ Y ≤ 4000) :
    Vis_two q0 q1 q2 A n c ts W B lo hi P0 b0 (RT P0 q2 [(q0, (Obj.cells #[.slice A n c, .int .i64 W, .int .i64 B] 62 (0, 0))), (q1, (Obj.cells #[.int .i64 X, .int .i64 Y] 34 (0, 0)))] (twoL ts X Y)) := by
  intro ks L v w hinc hfit hL hb hP hs hown hr
  obtain ⟨B', d, rfl⟩ := ownsRow_form hown
  obtain ⟨m, hm⟩ : ∃ m, ks.length = m := ⟨_, rfl⟩
  rw [hm] at hown hr ⊢
  have hm10 : m ≤ 10 := by have := incI_len hinc; have := hg.len; omega
  have HR := Lib.hid hr
  have HM := Lib.hid hm
  have HN := Lib.hid hn
  have HG := Lib.hid hg
  have HINC := Lib.hid hinc
  have HLT := Lib.hid (show ∀ g, (Value.slice B' m d).ownBlock = some g → g < w.heap.size from fun g e => (hown.lt g e).2)
  have HSK := Lib.hid ((ownsRow_own (ys := ks) (by rw [hm]; exact hown)).2.seg)
  have HSI := Lib.hid hs
  have hL4 : L.length < 4096 := hL
  have hlug := hr.ext (q0, (Obj.cells #[.slice A n c, .int .i64 W, .int .i64 B] 62 (0, 0))) (by simp)
  have hdc := hr.ext (q1, (Obj.cells #[.int .i64 X, .int .i64 Y] 34 (0, 0))) (by simp)
  have HLUG := Lib.hid hlug
  have HDC := Lib.hid hdc
  obtain ⟨g0, hg0⟩ : ∃ g0, twoL ts X Y L = g0 := ⟨_, rfl⟩
  have hval := hr.val
  rw [hg0] at hval
  have HV2 := Lib.hid hval
  have HS_w := Lib.hid (show w.cell? ⟨q0, 0, none⟩ = some (.slice A n c) ∧ w.cell? ⟨q0, 1, none⟩ = some (.int .i64 W) ∧ w.cell? ⟨q0, 2, none⟩ = some (.int .i64 B) ∧ w.cell? ⟨q1, 0, none⟩ = some (.int .i64 X) ∧ w.cell? ⟨q1, 1, none⟩ = some (.int .i64 Y) from ⟨cell_of hlug 0, cell_of hlug 1, cell_of hlug 2, cell_of hdc 0, cell_of hdc 1⟩)
  have hPw : P0 + 4 ≤ w.heap.size := hP
  have hiw : hi ≤ w.heap.size := by omega
  have HOKR := Lib.hid (restI_ok hg ks)
  have hbv := valI_bd hg hinc
  have hbt := topI_bd (restI_ok hg ks) hX.1 hY.1
  obtain ⟨v1, hv1⟩ : ∃ v1, valI ts ks = v1 := ⟨_, rfl⟩
  obtain ⟨v2, hv2⟩ : ∃ v2, (topI (restI ts ks) X Y).1 = v2 := ⟨_, rfl⟩
  rw [hv1] at hbv
  rw [hv2] at hbt
  have HVAL := Lib.hid (show sumF (vI ts) ks = v1 from hv1)
  have HTOP := Lib.hid hv2
  have HTV := Lib.hid (show twoV ts X Y ks = v1 + v2 by unfold twoV; rw [hv1, hv2])
  have hadd : IntKind.i64.wrap (v1 + v2) = v1 + v2 := by rw [IntKind.wrap_i64]; omega
  have HADD := Lib.hid hadd
  have HEND := Lib.hid (show ∀ z, Below w.heap.size w z → RetVis P0 b0 (RT P0 q2 [(q0, (Obj.cells #[.slice A n c, .int .i64 W, .int .i64 B] 62 (0, 0))), (q1, (Obj.cells #[.int .i64 X, .int .i64 Y] 34 (0, 0)))] (twoL ts X Y)) (Value.slice B' m d).ownBlock (L ++ [ks]) w (.returned (.tuple #[])) (z.setCell ⟨q2, 0, none⟩ (.int .i64 (max g0 (v1 + v2)))) by
    intro z hbz
    refine ⟨rfl, ⟨?_, hr.far, ?_, ?_⟩, ?_, ?_⟩
    · have := hr.size; have := hbz.size; simp [World.setCell]; omega
    · intro p hp
      have hpl := heap_lt (hr.ext p hp)
      refine (set_far z (p := ⟨q2, 0, none⟩) ?_ _).trans ((hbz.block _ hpl).trans (hr.ext p hp))
      simp only [List.mem_cons, List.not_mem_nil, or_false] at hp
      rcases hp with rfl | rfl
      · exact h02
      · exact h12
    · rw [twoL_snoc, hg0, HTV.out]
      exact set_self ((hbz.block _ (heap_lt hval)).trans hval) 0 _
    · intro k hk0 hk1
      exact (set_far z (p := ⟨q2, 0, none⟩) (by show k ≠ q2; omega) _).trans (hbz.block k hk1)
    · exact (hbz.mono hb).setCell (p := ⟨q2, 0, none⟩) hb0 _)
  clear hm hn hg hinc hown hs hr hlug hdc hval hL hg0 hv1 hv2
  go_enter Try.func77, Try.ntmps77
  go_wp2_with fail
  refine wp_region_held_drew (S := (fun wq => wq.cell? ⟨q0, 0, none⟩ = some (.slice A n c) ∧ wq.cell? ⟨q0, 1, none⟩ = some (.int .i64 W) ∧ wq.cell? ⟨q0, 2, none⟩ = some (.int .i64 B) ∧ wq.cell? ⟨q1, 0, none⟩ = some (.int .i64 X) ∧ wq.cell? ⟨q1, 1, none⟩ = some (.int .i64 Y))) (by kernel_rfl) HS_w.out (fun hH0 => ?_)
  obtain ⟨wd, hwd⟩ : ∃ wz, w.drew = wz := ⟨_, rfl⟩
  have hbd : Below w.heap.size w wd := by rw [← hwd]; exact below_drewN (Below.refl _ _) 1
  rw [hwd] at hH0 ⊢
  have HB_wd := Lib.hid hbd
  clear hbd hwd
  have hl_wd := (HB_wd.out.block _ (heap_lt HLUG.out)).trans HLUG.out
  have hd_wd := (HB_wd.out.block _ (heap_lt HDC.out)).trans HDC.out
  have HSI_wd := Lib.hid (HSI.out.below HB_wd.out hiw)
  have HSK_wd := Lib.hid (HSK.out.below HB_wd.out (Nat.le_refl _))
  have hz_wd := HB_wd.out.size
  have HS_wd := Lib.hid (show wd.cell? ⟨q0, 0, none⟩ = some (.slice A n c) ∧ wd.cell? ⟨q0, 1, none⟩ = some (.int .i64 W) ∧ wd.cell? ⟨q0, 2, none⟩ = some (.int .i64 B) ∧ wd.cell? ⟨q1, 0, none⟩ = some (.int .i64 X) ∧ wd.cell? ⟨q1, 1, none⟩ = some (.int .i64 Y) from ⟨cell_of hl_wd 0, cell_of hl_wd 1, cell_of hl_wd 2, cell_of hd_wd 0, cell_of hd_wd 1⟩)
  clear hl_wd hd_wd
  refine wpAnyH_take (i := 0) (v := ?_) (ops_at rfl) (by kernel_rfl) (by kernel_rfl) (by kernel_rfl) (fun _ _ _ h => h) (Or.inl ⟨by rfl, ?yuaa1_0⟩) (by assumption) ?nuaa1_0
  case yuaa1_0 => (intro wS hSw; (try dsimp only at hSw); go_simp; try rfl)
  try simp only [Act.put, List.setIfInBounds_toArray, List.set_cons_zero, List.set_cons_succ]
  refine wpAnyH_take (i := 1) (v := ?_) (ops_at rfl) (by kernel_rfl) (by kernel_rfl) (by kernel_rfl) (fun _ _ _ h => h) (Or.inl ⟨by rfl, ?yuaa1_1⟩) (by assumption) ?nuaa1_1
  case yuaa1_1 => (intro wS hSw; (try dsimp only at hSw); go_simp; try rfl)
  try simp only [Act.put, List.setIfInBounds_toArray, List.set_cons_zero, List.set_cons_succ]
  refine wpAnyH_take (i := 4) (v := ?_) (ops_at rfl) (by kernel_rfl) (by kernel_rfl) (by kernel_rfl) (fun _ _ _ h => h) (Or.inl ⟨by rfl, ?yuaa1_4⟩) (by assumption) ?nuaa1_4
  case yuaa1_4 => (intro wS hSw; (try dsimp only at hSw); go_simp; try rfl)
  try simp only [Act.put, List.setIfInBounds_toArray, List.set_cons_zero, List.set_cons_succ]
  refine wpAnyH_ready (rs := [2, 6]) (by kernel_rfl) (by simp) ?_
  refine AllReadyH.cons (ops_at rfl) (fun K hK => ?_) (AllReadyH.cons (ops_at rfl) (fun K hK => ?_) AllReadyH.nil)
  · go_simp
    refine (without_lug A B' n c m d W B ts ks lo hi _ _ _ HN.out HG.out HM.out (by omega) HSI_wd.out (by omega) HSK_wd.out hz_wd).mono ?_
    rintro e w1 ⟨A5, n5, c5, rfl, hn5, ho5, hb5⟩
    have HN5 := Lib.hid hn5
    have HO_w1 := Lib.hid (ho5.more (lo' := w.heap.size) hz_wd (Nat.le_refl _)).seg
    have HB_w1 := Lib.hid (HB_wd.out.trans (hb5.mono hz_wd))
    have hzz_w1 := hb5.size
    have hfl := field_lug A5 n5 c5 W B
    have hl_w1 := (HB_w1.out.block _ (heap_lt HLUG.out)).trans HLUG.out
    have hd_w1 := (HB_w1.out.block _ (heap_lt HDC.out)).trans HDC.out
    have HSI_w1 := Lib.hid (HSI.out.below HB_w1.out hiw)
    have HSK_w1 := Lib.hid (HSK.out.below HB_w1.out (Nat.le_refl _))
    have hz_w1 := HB_w1.out.size
    have HS_w1 := Lib.hid (show w1.cell? ⟨q0, 0, none⟩ = some (.slice A n c) ∧ w1.cell? ⟨q0, 1, none⟩ = some (.int .i64 W) ∧ w1.cell? ⟨q0, 2, none⟩ = some (.int .i64 B) ∧ w1.cell? ⟨q1, 0, none⟩ = some (.int .i64 X) ∧ w1.cell? ⟨q1, 1, none⟩ = some (.int .i64 Y) from ⟨cell_of hl_w1 0, cell_of hl_w1 1, cell_of hl_w1 2, cell_of hd_w1 0, cell_of hd_w1 1⟩)
    clear ho5 hb5 hn5
    clear hl_w1 hd_w1
    refine hK.out _ _ HS_w1.out (fun hH_w1 => ?_)
    clear hK K
    refine wpAnyH_take (i := 3) (v := ?_) (ops_at rfl) (by kernel_rfl) (by kernel_rfl) (by kernel_rfl) (fun _ _ _ h => h) (Or.inl ⟨by rfl, ?yubb2_3⟩) (by assumption) ?nubb2_3
    case yubb2_3 => (intro wS hSw; (try dsimp only at hSw); go_simp; try rfl)
    try simp only [Act.put, List.setIfInBounds_toArray, List.set_cons_zero, List.set_cons_succ]
    refine wpAnyH_take (i := 5) (v := ?_) (ops_at rfl) (by kernel_rfl) (by kernel_rfl) (by kernel_rfl) (fun _ _ _ h => h) (Or.inl ⟨by rfl, ?yubb2_5⟩) (by assumption) ?nubb2_5
    case yubb2_5 => (intro wS hSw; (try dsimp only at hSw); go_simp; try rfl)
    try simp only [Act.put, List.setIfInBounds_toArray, List.set_cons_zero, List.set_cons_succ]
    refine wpAnyH_ready (rs := [6]) (by kernel_rfl) (by simp) ?_
    refine AllReadyH.cons (ops_at rfl) (fun K hK => ?_) AllReadyH.nil
    obtain ⟨w2, hw2⟩ : ∃ wz, w1.alloc (.cells #[.slice none 0 0, .int .i64 0, .int .i64 0] 62) = wz := ⟨_, rfl⟩
    have hba : Below w1.heap.size w1 w2 := by rw [← hw2]; exact (Below.refl _ _).alloc (Nat.le_refl _) _
    obtain ⟨oth, hoth⟩ : ∃ p, p = w1.heap.size := ⟨_, rfl⟩
    have HNEW_w2 := Lib.hid (show w2.heap[oth]? = some (.cells #[.slice none 0 0, .int .i64 0, .int .i64 0] 62 (0, 0)) by rw [← hw2]; exact new_at _ _ hoth)
    have HB_w2 := Lib.hid (HB_w1.out.trans (hba.mono hz_w1))
    have howl : w.heap.size ≤ oth := by omega
    have hzz_w2 : w2.heap.size = w1.heap.size + 1 := by rw [← hw2]; simp
    have Hw2 := Lib.hid hw2
    have HOT := Lib.hid hoth
    have hl_w2 := (HB_w2.out.block _ (heap_lt HLUG.out)).trans HLUG.out
    have hd_w2 := (HB_w2.out.block _ (heap_lt HDC.out)).trans HDC.out
    have HSI_w2 := Lib.hid (HSI.out.below HB_w2.out hiw)
    have HSK_w2 := Lib.hid (HSK.out.below HB_w2.out (Nat.le_refl _))
    have hz_w2 := HB_w2.out.size
    have HS_w2 := Lib.hid (show w2.cell? ⟨q0, 0, none⟩ = some (.slice A n c) ∧ w2.cell? ⟨q0, 1, none⟩ = some (.int .i64 W) ∧ w2.cell? ⟨q0, 2, none⟩ = some (.int .i64 B) ∧ w2.cell? ⟨q1, 0, none⟩ = some (.int .i64 X) ∧ w2.cell? ⟨q1, 1, none⟩ = some (.int .i64 Y) from ⟨cell_of hl_w2 0, cell_of hl_w2 1, cell_of hl_w2 2, cell_of hd_w2 0, cell_of hd_w2 1⟩)
    go_simp
    try rw [Hw2.out]
    try rw [← HOT.out]
    clear hoth
    clear hl_w2 hd_w2
    have HO_w2 := Lib.hid (HO_w1.out.below hba (Nat.le_refl _))
    have HNE := Lib.hid (show ∀ b, w.heap.size ≤ b → b < w1.heap.size → b ≠ oth from fun b hb1 hb2 => by have := HOT.out; omega)
    clear hba hw2
    refine hK.out _ _ HS_w2.out (fun hH_w2 => ?_)
    clear hK K
    refine wpAnyH_ready (rs := [7]) (by kernel_rfl) (by simp) ?_
    refine AllReadyH.cons (ops_at rfl) (fun K hK => ?_) AllReadyH.nil
    have k0 := cell_of HNEW_w2.out 0
    have k1 := cell_of HNEW_w2.out 1
    have k2 := cell_of HNEW_w2.out 2
    have z0 := frozen_of HNEW_w2.out 0
    have z1 := frozen_of HNEW_w2.out 1
    have z2 := frozen_of HNEW_w2.out 2
    go_simp
    obtain ⟨w3, hw3⟩ : ∃ wz, ((w2.setCell ⟨oth, 0, none⟩ (.slice A5 n5 c5)).setCell ⟨oth, 1, none⟩ (.int .i64 X)).setCell ⟨oth, 2, none⟩ (.int .i64 Y) = wz := ⟨_, rfl⟩
    have hbs : Below w.heap.size w2 w3 := by rw [← hw3]; exact (((Below.refl _ _).setCell howl _).setCell howl _).setCell howl _
    have HNEW_w3 := Lib.hid (show w3.heap[oth]? = some (.cells #[.slice A5 n5 c5, .int .i64 X, .int .i64 Y] 62 (0, 0)) by rw [← hw3]; exact set_self (set_self (set_self HNEW_w2.out 0 _) 1 _) 2 _)
    have HB_w3 := Lib.hid (HB_w2.out.trans hbs)
    have HO_w3 := Lib.hid (HO_w2.out.keep (w' := w3) fun p hb1 hb2 => World.cell?_of_block (by rw [← hw3]; have hne := HNE.out p.block hb1 hb2; exact (set_far _ (p := ⟨oth, 2, none⟩) hne _).trans ((set_far _ (p := ⟨oth, 1, none⟩) hne _).trans (set_far _ (p := ⟨oth, 0, none⟩) hne _))))
    have hszs : w3.heap.size = w2.heap.size := by rw [← hw3]; simp [World.setCell]
    rw [hw3]
    clear k0 k1 k2 z0 z1 z2 hbs hw3
    have hl_w3 := (HB_w3.out.block _ (heap_lt HLUG.out)).trans HLUG.out
    have hd_w3 := (HB_w3.out.block _ (heap_lt HDC.out)).trans HDC.out
    have HSI_w3 := Lib.hid (HSI.out.below HB_w3.out hiw)
    have HSK_w3 := Lib.hid (HSK.out.below HB_w3.out (Nat.le_refl _))
    have hz_w3 := HB_w3.out.size
    have HS_w3 := Lib.hid (show w3.cell? ⟨q0, 0, none⟩ = some (.slice A n c) ∧ w3.cell? ⟨q0, 1, none⟩ = some (.int .i64 W) ∧ w3.cell? ⟨q0, 2, none⟩ = some (.int .i64 B) ∧ w3.cell? ⟨q1, 0, none⟩ = some (.int .i64 X) ∧ w3.cell? ⟨q1, 1, none⟩ = some (.int .i64 Y) from ⟨cell_of hl_w3 0, cell_of hl_w3 1, cell_of hl_w3 2, cell_of hd_w3 0, cell_of hd_w3 1⟩)
    refine hK.out _ _ HS_w3.out (fun hH_w3 => ?_)
    clear hK K
    refine wpAnyH_done (by kernel_rfl) ?_ _
    clear hfl
    have HT_w3 := Lib.hid (show w3.cell? ⟨q0, 0, none⟩ = some (.slice A n c) ∧ w3.cell? ⟨q0, 1, none⟩ = some (.int .i64 W) ∧ w3.cell? ⟨q0, 2, none⟩ = some (.int .i64 B) ∧ w3.cell? ⟨oth, 0, none⟩ = some (.slice A5 n5 c5) ∧ w3.cell? ⟨oth, 1, none⟩ = some (.int .i64 X) ∧ w3.cell? ⟨oth, 2, none⟩ = some (.int .i64 Y) from ⟨cell_of hl_w3 0, cell_of hl_w3 1, cell_of hl_w3 2, cell_of HNEW_w3.out 0, cell_of HNEW_w3.out 1, cell_of HNEW_w3.out 2⟩)
    go_wp2_with fail
    refine wp_region_held_drew (S := (fun wq => wq.cell? ⟨q0, 0, none⟩ = some (.slice A n c) ∧ wq.cell? ⟨q0, 1, none⟩ = some (.int .i64 W) ∧ wq.cell? ⟨q0, 2, none⟩ = some (.int .i64 B) ∧ wq.cell? ⟨oth, 0, none⟩ = some (.slice A5 n5 c5) ∧ wq.cell? ⟨oth, 1, none⟩ = some (.int .i64 X) ∧ wq.cell? ⟨oth, 2, none⟩ = some (.int .i64 Y))) (by kernel_rfl) HT_w3.out (fun hH0 => ?_)
    obtain ⟨wd1, hwd1⟩ : ∃ wz, w3.drew = wz := ⟨_, rfl⟩
    have hbd : Below w3.heap.size w3 wd1 := by rw [← hwd1]; exact below_drewN (Below.refl _ _) 1
    rw [hwd1] at hH0 ⊢
    have HB_wd1 := Lib.hid (HB_w3.out.trans (hbd.mono hz_w3))
    have HNEW_wd1 := Lib.hid ((hbd.block _ (heap_lt HNEW_w3.out)).trans HNEW_w3.out)
    have HO_wd1 := Lib.hid (HO_w3.out.below hbd (by omega))
    have hzz_wd1 := hbd.size
    have hot_wd1 := heap_lt HNEW_wd1.out
    clear hbd
    have hl_wd1 := (HB_wd1.out.block _ (heap_lt HLUG.out)).trans HLUG.out
    have hd_wd1 := (HB_wd1.out.block _ (heap_lt HDC.out)).trans HDC.out
    have HSI_wd1 := Lib.hid (HSI.out.below HB_wd1.out hiw)
    have HSK_wd1 := Lib.hid (HSK.out.below HB_wd1.out (Nat.le_refl _))
    have hz_wd1 := HB_wd1.out.size
    have HT_wd1 := Lib.hid (show wd1.cell? ⟨q0, 0, none⟩ = some (.slice A n c) ∧ wd1.cell? ⟨q0, 1, none⟩ = some (.int .i64 W) ∧ wd1.cell? ⟨q0, 2, none⟩ = some (.int .i64 B) ∧ wd1.cell? ⟨oth, 0, none⟩ = some (.slice A5 n5 c5) ∧ wd1.cell? ⟨oth, 1, none⟩ = some (.int .i64 X) ∧ wd1.cell? ⟨oth, 2, none⟩ = some (.int .i64 Y) from ⟨cell_of hl_wd1 0, cell_of hl_wd1 1, cell_of hl_wd1 2, cell_of HNEW_wd1.out 0, cell_of HNEW_wd1.out 1, cell_of HNEW_wd1.out 2⟩)
    clear hl_wd1 hd_wd1
    clear hwd1
    refine wpAnyH_take (i := 1) (v := ?_) (ops_at rfl) (by kernel_rfl) (by kernel_rfl) (by kernel_rfl) (fun _ _ _ h => h) (Or.inl ⟨by rfl, ?yudd4_1⟩) (by assumption) ?nudd4_1
    case yudd4_1 => (intro wS hSw; (try dsimp only at hSw); go_simp; try rfl)
    try simp only [Act.put, List.setIfInBounds_toArray, List.set_cons_zero, List.set_cons_succ]
    refine wpAnyH_take (i := 2) (v := ?_) (ops_at rfl) (by kernel_rfl) (by kernel_rfl) (by kernel_rfl) (fun _ _ _ h => h) (Or.inl ⟨by rfl, ?yudd4_2⟩) (by assumption) ?nudd4_2
    case yudd4_2 => (intro wS hSw; (try dsimp only at hSw); go_simp; try rfl)
    try simp only [Act.put, List.setIfInBounds_toArray, List.set_cons_zero, List.set_cons_succ]
    refine wpAnyH_take (i := 4) (v := ?_) (ops_at rfl) (by kernel_rfl) (by kernel_rfl) (by kernel_rfl) (fun _ _ _ h => h) (Or.inl ⟨by rfl, ?yudd4_4⟩) (by assumption) ?nudd4_4
    case yudd4_4 => (intro wS hSw; (try dsimp only at hSw); go_simp; try rfl)
    try simp only [Act.put, List.setIfInBounds_toArray, List.set_cons_zero, List.set_cons_succ]
    refine wpAnyH_ready (rs := [0, 3]) (by kernel_rfl) (by simp) ?_
    refine AllReadyH.cons (ops_at rfl) (fun K hK => ?_) (AllReadyH.cons (ops_at rfl) (fun K hK => ?_) AllReadyH.nil)
    · have k0 := cell_of ((HB_wd1.out.block _ (heap_lt HV2.out)).trans HV2.out) 0
      go_simp
      refine hK.out _ _ HT_wd1.out (fun hH_wd1 => ?_)
      clear hK K
      clear k0
      refine wpAnyH_ready (rs := [3]) (by kernel_rfl) (by simp) ?_
      refine AllReadyH.cons (ops_at rfl) (fun K hK => ?_) AllReadyH.nil
      go_simp
      refine (valueOf_any A B' n c m d W B ts ks lo hi _ _ _ HN.out HG.out HM.out HINC.out HSI_wd1.out (by omega) HSK_wd1.out hz_wd1).mono ?_
      rintro e wf ⟨rfl, hb3⟩
      rw [HVAL.out]
      have HB_wf := Lib.hid (HB_wd1.out.trans (hb3.mono hz_wd1))
      have HNEW_wf := Lib.hid ((hb3.block _ (heap_lt HNEW_wd1.out)).trans HNEW_wd1.out)
      have HO_wf := Lib.hid (HO_wd1.out.below hb3 (by omega))
      have hzz_wf := hb3.size
      have hot_wf := heap_lt HNEW_wf.out
      clear hb3
      have hl_wf := (HB_wf.out.block _ (heap_lt HLUG.out)).trans HLUG.out
      have hd_wf := (HB_wf.out.block _ (heap_lt HDC.out)).trans HDC.out
      have HSI_wf := Lib.hid (HSI.out.below HB_wf.out hiw)
      have HSK_wf := Lib.hid (HSK.out.below HB_wf.out (Nat.le_refl _))
      have hz_wf := HB_wf.out.size
      have HT_wf := Lib.hid (show wf.cell? ⟨q0, 0, none⟩ = some (.slice A n c) ∧ wf.cell? ⟨q0, 1, none⟩ = some (.int .i64 W) ∧ wf.cell? ⟨q0, 2, none⟩ = some (.int .i64 B) ∧ wf.cell? ⟨oth, 0, none⟩ = some (.slice A5 n5 c5) ∧ wf.cell? ⟨oth, 1, none⟩ = some (.int .i64 X) ∧ wf.cell? ⟨oth, 2, none⟩ = some (.int .i64 Y) from ⟨cell_of hl_wf 0, cell_of hl_wf 1, cell_of hl_wf 2, cell_of HNEW_wf.out 0, cell_of HNEW_wf.out 1, cell_of HNEW_wf.out 2⟩)
      clear hl_wf hd_wf
      refine hK.out _ _ HT_wf.out (fun hH_wf => ?_)
      clear hK K
      refine wpAnyH_ready (rs := [5]) (by kernel_rfl) (by simp) ?_
      refine AllReadyH.cons (ops_at rfl) (fun K hK => ?_) AllReadyH.nil
      go_simp
      refine (best_any A5 n5 c5 X Y (restI ts ks) _ _ _ HN5.out HOKR.out hX hY HO_wf.out (by omega)).mono ?_
      rintro e wg ⟨A6, n6, c6, rfl, _, _, hb6⟩
      have hfw := field_worth (topI (restI ts ks) X Y).1 A6 n6 c6 ((topI (restI ts ks) X Y).2.2 : Nat)
      rw [HTOP.out] at hfw ⊢
      have HB_wg := Lib.hid (HB_wf.out.trans (hb6.mono hz_wf))
      have HNEW_wg := Lib.hid ((hb6.block _ (heap_lt HNEW_wf.out)).trans HNEW_wf.out)
      have HO_wg := Lib.hid (HO_wf.out.below hb6 (by omega))
      have hzz_wg := hb6.size
      have hot_wg := heap_lt HNEW_wg.out
      clear hb6
      have hl_wg := (HB_wg.out.block _ (heap_lt HLUG.out)).trans HLUG.out
      have hd_wg := (HB_wg.out.block _ (heap_lt HDC.out)).trans HDC.out
      have HSI_wg := Lib.hid (HSI.out.below HB_wg.out hiw)
      have HSK_wg := Lib.hid (HSK.out.below HB_wg.out (Nat.le_refl _))
      have hz_wg := HB_wg.out.size
      have HT_wg := Lib.hid (show wg.cell? ⟨q0, 0, none⟩ = some (.slice A n c) ∧ wg.cell? ⟨q0, 1, none⟩ = some (.int .i64 W) ∧ wg.cell? ⟨q0, 2, none⟩ = some (.int .i64 B) ∧ wg.cell? ⟨oth, 0, none⟩ = some (.slice A5 n5 c5) ∧ wg.cell? ⟨oth, 1, none⟩ = some (.int .i64 X) ∧ wg.cell? ⟨oth, 2, none⟩ = some (.int .i64 Y) from ⟨cell_of hl_wg 0, cell_of hl_wg 1, cell_of hl_wg 2, cell_of HNEW_wg.out 0, cell_of HNEW_wg.out 1, cell_of HNEW_wg.out 2⟩)
      clear hl_wg hd_wg
      refine hK.out _ _ HT_wg.out (fun hH_wg => ?_)
      clear hK K
      refine wpAnyH_take (i := 6) (v := ?_) (ops_at rfl) (by kernel_rfl) (by kernel_rfl) (by kernel_rfl) (fun _ _ _ h => h) (Or.inl ⟨by rfl, ?yuee5_6⟩) (by assumption) ?nuee5_6
      case yuee5_6 => (intro wS hSw; (try dsimp only at hSw); go_simp; try rfl)
      try simp only [Act.put, List.setIfInBounds_toArray, List.set_cons_zero, List.set_cons_succ]
      refine wpAnyH_take (i := 7) (v := ?_) (ops_at rfl) (by kernel_rfl) (by kernel_rfl) (by kernel_rfl) (fun _ _ _ h => h) (Or.inl ⟨by rfl, ?yuee5_7⟩) (by assumption) ?nuee5_7
      case yuee5_7 => (intro wS hSw; (try dsimp only at hSw); go_simp; try rfl)
      try simp only [Act.put, List.setIfInBounds_toArray, List.set_cons_zero, List.set_cons_succ]
      refine wpAnyH_ready (rs := [8]) (by kernel_rfl) (by simp) ?_
      refine AllReadyH.cons (ops_at rfl) (fun K hK => ?_) AllReadyH.nil
      go_simp
      try rw [HADD.out]
      refine hK.out _ _ HT_wg.out (fun hH_wg => ?_)
      clear hK K
      refine wpAnyH_ready (rs := [9]) (by kernel_rfl) (by simp) ?_
      refine AllReadyH.cons (ops_at rfl) (fun K hK => ?_) AllReadyH.nil
      have k0 := cell_of ((HB_wg.out.block _ (heap_lt HV2.out)).trans HV2.out) 0
      have z0 := frozen_of ((HB_wg.out.block _ (heap_lt HV2.out)).trans HV2.out) 0
      go_simp
      have hl9 := (set_far wg (p := ⟨q2, 0, none⟩) h02 (.int .i64 (max g0 (v1 + v2)))).trans ((HB_wg.out.block _ (heap_lt HLUG.out)).trans HLUG.out)
      have ho9 := (set_far wg (p := ⟨q2, 0, none⟩) (by show oth ≠ q2; omega) (.int .i64 (max g0 (v1 + v2)))).trans HNEW_wg.out
      refine hK.out _ _ ⟨cell_of hl9 0, cell_of hl9 1, cell_of hl9 2, cell_of ho9 0, cell_of ho9 1, cell_of ho9 2⟩ (fun hH9 => ?_)
      clear hK K hl9 ho9 k0 z0
      refine wpAnyH_done (by kernel_rfl) ?_ _
      go_wp2
      go_end0
      exact HEND.out _ HB_wg.out
    · go_simp
      refine (valueOf_any A B' n c m d W B ts ks lo hi _ _ _ HN.out HG.out HM.out HINC.out HSI_wd1.out (by omega) HSK_wd1.out hz_wd1).mono ?_
      rintro e wf ⟨rfl, hb3⟩
      rw [HVAL.out]
      have HB_wf := Lib.hid (HB_wd1.out.trans (hb3.mono hz_wd1))
      have HNEW_wf := Lib.hid ((hb3.block _ (heap_lt HNEW_wd1.out)).trans HNEW_wd1.out)
      have HO_wf := Lib.hid (HO_wd1.out.below hb3 (by omega))
      have hzz_wf := hb3.size
      have hot_wf := heap_lt HNEW_wf.out
      clear hb3
      have hl_wf := (HB_wf.out.block _ (heap_lt HLUG.out)).trans HLUG.out
      have hd_wf := (HB_wf.out.block _ (heap_lt HDC.out)).trans HDC.out
      have HSI_wf := Lib.hid (HSI.out.below HB_wf.out hiw)
      have HSK_wf := Lib.hid (HSK.out.below HB_wf.out (Nat.le_refl _))
      have hz_wf := HB_wf.out.size
      have HT_wf := Lib.hid (show wf.cell? ⟨q0, 0, none⟩ = some (.slice A n c) ∧ wf.cell? ⟨q0, 1, none⟩ = some (.int .i64 W) ∧ wf.cell? ⟨q0, 2, none⟩ = some (.int .i64 B) ∧ wf.cell? ⟨oth, 0, none⟩ = some (.slice A5 n5 c5) ∧ wf.cell? ⟨oth, 1, none⟩ = some (.int .i64 X) ∧ wf.cell? ⟨oth, 2, none⟩ = some (.int .i64 Y) from ⟨cell_of hl_wf 0, cell_of hl_wf 1, cell_of hl_wf 2, cell_of HNEW_wf.out 0, cell_of HNEW_wf.out 1, cell_of HNEW_wf.out 2⟩)
      clear hl_wf hd_wf
      refine hK.out _ _ HT_wf.out (fun hH_wf => ?_)
      clear hK K
      refine wpAnyH_ready (rs := [0, 5]) (by kernel_rfl) (by simp) ?_
      refine AllReadyH.cons (ops_at rfl) (fun K hK => ?_) (AllReadyH.cons (ops_at rfl) (fun K hK => ?_) AllReadyH.nil)
      · have k0 := cell_of ((HB_wf.out.block _ (heap_lt HV2.out)).trans HV2.out) 0
        go_simp
        refine hK.out _ _ HT_wf.out (fun hH_wf => ?_)
        clear hK K
        clear k0
        refine wpAnyH_ready (rs := [5]) (by kernel_rfl) (by simp) ?_
        refine AllReadyH.cons (ops_at rfl) (fun K hK => ?_) AllReadyH.nil
        go_simp
        refine (best_any A5 n5 c5 X Y (restI ts ks) _ _ _ HN5.out HOKR.out hX hY HO_wf.out (by omega)).mono ?_
        rintro e wg ⟨A6, n6, c6, rfl, _, _, hb6⟩
        have hfw := field_worth (topI (restI ts ks) X Y).1 A6 n6 c6 ((topI (restI ts ks) X Y).2.2 : Nat)
        rw [HTOP.out] at hfw ⊢
        have HB_wg := Lib.hid (HB_wf.out.trans (hb6.mono hz_wf))
        have HNEW_wg := Lib.hid ((hb6.block _ (heap_lt HNEW_wf.out)).trans HNEW_wf.out)
        have HO_wg := Lib.hid (HO_wf.out.below hb6 (by omega))
        have hzz_wg := hb6.size
        have hot_wg := heap_lt HNEW_wg.out
        clear hb6
        have hl_wg := (HB_wg.out.block _ (heap_lt HLUG.out)).trans HLUG.out
        have hd_wg := (HB_wg.out.block _ (heap_lt HDC.out)).trans HDC.out
        have HSI_wg := Lib.hid (HSI.out.below HB_wg.out hiw)
        have HSK_wg := Lib.hid (HSK.out.below HB_wg.out (Nat.le_refl _))
        have hz_wg := HB_wg.out.size
        have HT_wg := Lib.hid (show wg.cell? ⟨q0, 0, none⟩ = some (.slice A n c) ∧ wg.cell? ⟨q0, 1, none⟩ = some (.int .i64 W) ∧ wg.cell? ⟨q0, 2, none⟩ = some (.int .i64 B) ∧ wg.cell? ⟨oth, 0, none⟩ = some (.slice A5 n5 c5) ∧ wg.cell? ⟨oth, 1, none⟩ = some (.int .i64 X) ∧ wg.cell? ⟨oth, 2, none⟩ = some (.int .i64 Y) from ⟨cell_of hl_wg 0, cell_of hl_wg 1, cell_of hl_wg 2, cell_of HNEW_wg.out 0, cell_of HNEW_wg.out 1, cell_of HNEW_wg.out 2⟩)
        clear hl_wg hd_wg
        refine hK.out _ _ HT_wg.out (fun hH_wg => ?_)
        clear hK K
        refine wpAnyH_take (i := 6) (v := ?_) (ops_at rfl) (by kernel_rfl) (by kernel_rfl) (by kernel_rfl) (fun _ _ _ h => h) (Or.inl ⟨by rfl, ?yuff6_6⟩) (by assumption) ?nuff6_6
        case yuff6_6 => (intro wS hSw; (try dsimp only at hSw); go_simp; try rfl)
        try simp only [Act.put, List.setIfInBounds_toArray, List.set_cons_zero, List.set_cons_succ]
        refine wpAnyH_take (i := 7) (v := ?_) (ops_at rfl) (by kernel_rfl) (by kernel_rfl) (by kernel_rfl) (fun _ _ _ h => h) (Or.inl ⟨by rfl, ?yuff6_7⟩) (by assumption) ?nuff6_7
        case yuff6_7 => (intro wS hSw; (try dsimp only at hSw); go_simp; try rfl)
        try simp only [Act.put, List.setIfInBounds_toArray, List.set_cons_zero, List.set_cons_succ]
        refine wpAnyH_ready (rs := [8]) (by kernel_rfl) (by simp) ?_
        refine AllReadyH.cons (ops_at rfl) (fun K hK => ?_) AllReadyH.nil
        go_simp
        try rw [HADD.out]
        refine hK.out _ _ HT_wg.out (fun hH_wg => ?_)
        clear hK K
        refine wpAnyH_ready (rs := [9]) (by kernel_rfl) (by simp) ?_
        refine AllReadyH.cons (ops_at rfl) (fun K hK => ?_) AllReadyH.nil
        have k0 := cell_of ((HB_wg.out.block _ (heap_lt HV2.out)).trans HV2.out) 0
        have z0 := frozen_of ((HB_wg.out.block _ (heap_lt HV2.out)).trans HV2.out) 0
        go_simp
        have hl9 := (set_far wg (p := ⟨q2, 0, none⟩) h02 (.int .i64 (max g0 (v1 + v2)))).trans ((HB_wg.out.block _ (heap_lt HLUG.out)).trans HLUG.out)
        have ho9 := (set_far wg (p := ⟨q2, 0, none⟩) (by show oth ≠ q2; omega) (.int .i64 (max g0 (v1 + v2)))).trans HNEW_wg.out
        refine hK.out _ _ ⟨cell_of hl9 0, cell_of hl9 1, cell_of hl9 2, cell_of ho9 0, cell_of ho9 1, cell_of ho9 2⟩ (fun hH9 => ?_)
        clear hK K hl9 ho9 k0 z0
        refine wpAnyH_done (by kernel_rfl) ?_ _
        go_wp2
        go_end0
        exact HEND.out _ HB_wg.out
      · go_simp
        refine (best_any A5 n5 c5 X Y (restI ts ks) _ _ _ HN5.out HOKR.out hX hY HO_wf.out (by omega)).mono ?_
        rintro e wg ⟨A6, n6, c6, rfl, _, _, hb6⟩
        have hfw := field_worth (topI (restI ts ks) X Y).1 A6 n6 c6 ((topI (restI ts ks) X Y).2.2 : Nat)
        rw [HTOP.out] at hfw ⊢
        have HB_wg := Lib.hid (HB_wf.out.trans (hb6.mono hz_wf))
        have HNEW_wg := Lib.hid ((hb6.block _ (heap_lt HNEW_wf.out)).trans HNEW_wf.out)
        have HO_wg := Lib.hid (HO_wf.out.below hb6 (by omega))
        have hzz_wg := hb6.size
        have hot_wg := heap_lt HNEW_wg.out
        clear hb6
        have hl_wg := (HB_wg.out.block _ (heap_lt HLUG.out)).trans HLUG.out
        have hd_wg := (HB_wg.out.block _ (heap_lt HDC.out)).trans HDC.out
        have HSI_wg := Lib.hid (HSI.out.below HB_wg.out hiw)
        have HSK_wg := Lib.hid (HSK.out.below HB_wg.out (Nat.le_refl _))
        have hz_wg := HB_wg.out.size
        have HT_wg := Lib.hid (show wg.cell? ⟨q0, 0, none⟩ = some (.slice A n c) ∧ wg.cell? ⟨q0, 1, none⟩ = some (.int .i64 W) ∧ wg.cell? ⟨q0, 2, none⟩ = some (.int .i64 B) ∧ wg.cell? ⟨oth, 0, none⟩ = some (.slice A5 n5 c5) ∧ wg.cell? ⟨oth, 1, none⟩ = some (.int .i64 X) ∧ wg.cell? ⟨oth, 2, none⟩ = some (.int .i64 Y) from ⟨cell_of hl_wg 0, cell_of hl_wg 1, cell_of hl_wg 2, cell_of HNEW_wg.out 0, cell_of HNEW_wg.out 1, cell_of HNEW_wg.out 2⟩)
        clear hl_wg hd_wg
        refine hK.out _ _ HT_wg.out (fun hH_wg => ?_)
        clear hK K
        refine wpAnyH_take (i := 6) (v := ?_) (ops_at rfl) (by kernel_rfl) (by kernel_rfl) (by kernel_rfl) (fun _ _ _ h => h) (Or.inl ⟨by rfl, ?yugg7_6⟩) (by assumption) ?nugg7_6
        case yugg7_6 => (intro wS hSw; (try dsimp only at hSw); go_simp; try rfl)
        try simp only [Act.put, List.setIfInBounds_toArray, List.set_cons_zero, List.set_cons_succ]
        refine wpAnyH_take (i := 7) (v := ?_) (ops_at rfl) (by kernel_rfl) (by kernel_rfl) (by kernel_rfl) (fun _ _ _ h => h) (Or.inl ⟨by rfl, ?yugg7_7⟩) (by assumption) ?nugg7_7
        case yugg7_7 => (intro wS hSw; (try dsimp only at hSw); go_simp; try rfl)
        try simp only [Act.put, List.setIfInBounds_toArray, List.set_cons_zero, List.set_cons_succ]
        refine wpAnyH_ready (rs := [0]) (by kernel_rfl) (by simp) ?_
        refine AllReadyH.cons (ops_at rfl) (fun K hK => ?_) AllReadyH.nil
        have k0 := cell_of ((HB_wg.out.block _ (heap_lt HV2.out)).trans HV2.out) 0
        go_simp
        refine hK.out _ _ HT_wg.out (fun hH_wg => ?_)
        clear hK K
        clear k0
        refine wpAnyH_ready (rs := [8]) (by kernel_rfl) (by simp) ?_
        refine AllReadyH.cons (ops_at rfl) (fun K hK => ?_) AllReadyH.nil
        go_simp
        try rw [HADD.out]
        refine hK.out _ _ HT_wg.out (fun hH_wg => ?_)
        clear hK K
        refine wpAnyH_ready (rs := [9]) (by kernel_rfl) (by simp) ?_
        refine AllReadyH.cons (ops_at rfl) (fun K hK => ?_) AllReadyH.nil
        have k0 := cell_of ((HB_wg.out.block _ (heap_lt HV2.out)).trans HV2.out) 0
        have z0 := frozen_of ((HB_wg.out.block _ (heap_lt HV2.out)).trans HV2.out) 0
        go_simp
        have hl9 := (set_far wg (p := ⟨q2, 0, none⟩) h02 (.int .i64 (max g0 (v1 + v2)))).trans ((HB_wg.out.block _ (heap_lt HLUG.out)).trans HLUG.out)
        have ho9 := (set_far wg (p := ⟨q2, 0, none⟩) (by show oth ≠ q2; omega) (.int .i64 (max g0 (v1 + v2)))).trans HNEW_wg.out
        refine hK.out _ _ ⟨cell_of hl9 0, cell_of hl9 1, cell_of hl9 2, cell_of ho9 0, cell_of ho9 1, cell_of ho9 2⟩ (fun hH9 => ?_)
        clear hK K hl9 ho9 k0 z0
        refine wpAnyH_done (by kernel_rfl) ?_ _
        go_wp2
        go_end0
        exact HEND.out _ HB_wg.out
  · obtain ⟨w1, hw1⟩ : ∃ wz, wd.alloc (.cells #[.slice none 0 0, .int .i64 0, .int .i64 0] 62) = wz := ⟨_, rfl⟩
    have hba : Below wd.heap.size wd w1 := by rw [← hw1]; exact (Below.refl _ _).alloc (Nat.le_refl _) _
    obtain ⟨oth, hoth⟩ : ∃ p, p = wd.heap.size := ⟨_, rfl⟩
    have HNEW_w1 := Lib.hid (show w1.heap[oth]? = some (.cells #[.slice none 0 0, .int .i64 0, .int .i64 0] 62 (0, 0)) by rw [← hw1]; exact new_at _ _ hoth)
    have HB_w1 := Lib.hid (HB_wd.out.trans (hba.mono hz_wd))
    have howl : w.heap.size ≤ oth := by omega
    have hzz_w1 : w1.heap.size = wd.heap.size + 1 := by rw [← hw1]; simp
    have Hw1 := Lib.hid hw1
    have HOT := Lib.hid hoth
    have hl_w1 := (HB_w1.out.block _ (heap_lt HLUG.out)).trans HLUG.out
    have hd_w1 := (HB_w1.out.block _ (heap_lt HDC.out)).trans HDC.out
    have HSI_w1 := Lib.hid (HSI.out.below HB_w1.out hiw)
    have HSK_w1 := Lib.hid (HSK.out.below HB_w1.out (Nat.le_refl _))
    have hz_w1 := HB_w1.out.size
    have HS_w1 := Lib.hid (show w1.cell? ⟨q0, 0, none⟩ = some (.slice A n c) ∧ w1.cell? ⟨q0, 1, none⟩ = some (.int .i64 W) ∧ w1.cell? ⟨q0, 2, none⟩ = some (.int .i64 B) ∧ w1.cell? ⟨q1, 0, none⟩ = some (.int .i64 X) ∧ w1.cell? ⟨q1, 1, none⟩ = some (.int .i64 Y) from ⟨cell_of hl_w1 0, cell_of hl_w1 1, cell_of hl_w1 2, cell_of hd_w1 0, cell_of hd_w1 1⟩)
    go_simp
    try rw [Hw1.out]
    try rw [← HOT.out]
    clear hoth
    clear hl_w1 hd_w1
    clear hba hw1
    refine hK.out _ _ HS_w1.out (fun hH_w1 => ?_)
    clear hK K
    refine wpAnyH_ready (rs := [2]) (by kernel_rfl) (by simp) ?_
    refine AllReadyH.cons (ops_at rfl) (fun K hK => ?_) AllReadyH.nil
    go_simp
    refine (without_lug A B' n c m d W B ts ks lo hi _ _ _ HN.out HG.out HM.out (by omega) HSI_w1.out (by omega) HSK_w1.out hz_w1).mono ?_
    rintro e w2 ⟨A5, n5, c5, rfl, hn5, ho5, hb5⟩
    have HN5 := Lib.hid hn5
    have HO_w2 := Lib.hid (ho5.more (lo' := w.heap.size) hz_w1 (Nat.le_refl _)).seg
    have HB_w2 := Lib.hid (HB_w1.out.trans (hb5.mono hz_w1))
    have hzz_w2 := hb5.size
    have hfl := field_lug A5 n5 c5 W B
    have hl_w2 := (HB_w2.out.block _ (heap_lt HLUG.out)).trans HLUG.out
    have hd_w2 := (HB_w2.out.block _ (heap_lt HDC.out)).trans HDC.out
    have HSI_w2 := Lib.hid (HSI.out.below HB_w2.out hiw)
    have HSK_w2 := Lib.hid (HSK.out.below HB_w2.out (Nat.le_refl _))
    have hz_w2 := HB_w2.out.size
    have HS_w2 := Lib.hid (show w2.cell? ⟨q0, 0, none⟩ = some (.slice A n c) ∧ w2.cell? ⟨q0, 1, none⟩ = some (.int .i64 W) ∧ w2.cell? ⟨q0, 2, none⟩ = some (.int .i64 B) ∧ w2.cell? ⟨q1, 0, none⟩ = some (.int .i64 X) ∧ w2.cell? ⟨q1, 1, none⟩ = some (.int .i64 Y) from ⟨cell_of hl_w2 0, cell_of hl_w2 1, cell_of hl_w2 2, cell_of hd_w2 0, cell_of hd_w2 1⟩)
    have HO2 := Lib.hid ho5.seg
    have HNEW_w2 := Lib.hid ((hb5.block _ (heap_lt HNEW_w1.out)).trans HNEW_w1.out)
    have HNE := Lib.hid (show ∀ b, w1.heap.size ≤ b → b < w2.heap.size → b ≠ oth from fun b hb1 hb2 => by have := heap_lt HNEW_w1.out; omega)
    have HO_w2 := HO2
    clear ho5 hb5 hn5
    clear hl_w2 hd_w2
    refine hK.out _ _ HS_w2.out (fun hH_w2 => ?_)
    clear hK K
    refine wpAnyH_take (i := 3) (v := ?_) (ops_at rfl) (by kernel_rfl) (by kernel_rfl) (by kernel_rfl) (fun _ _ _ h => h) (Or.inl ⟨by rfl, ?yucc3_3⟩) (by assumption) ?nucc3_3
    case yucc3_3 => (intro wS hSw; (try dsimp only at hSw); go_simp; try rfl)
    try simp only [Act.put, List.setIfInBounds_toArray, List.set_cons_zero, List.set_cons_succ]
    refine wpAnyH_take (i := 5) (v := ?_) (ops_at rfl) (by kernel_rfl) (by kernel_rfl) (by kernel_rfl) (fun _ _ _ h => h) (Or.inl ⟨by rfl, ?yucc3_5⟩) (by assumption) ?nucc3_5
    case yucc3_5 => (intro wS hSw; (try dsimp only at hSw); go_simp; try rfl)
    try simp only [Act.put, List.setIfInBounds_toArray, List.set_cons_zero, List.set_cons_succ]
    refine wpAnyH_ready (rs := [7]) (by kernel_rfl) (by simp) ?_
    refine AllReadyH.cons (ops_at rfl) (fun K hK => ?_) AllReadyH.nil
    have k0 := cell_of HNEW_w2.out 0
    have k1 := cell_of HNEW_w2.out 1
    have k2 := cell_of HNEW_w2.out 2
    have z0 := frozen_of HNEW_w2.out 0
    have z1 := frozen_of HNEW_w2.out 1
    have z2 := frozen_of HNEW_w2.out 2
    go_simp
    obtain ⟨w3, hw3⟩ : ∃ wz, ((w2.setCell ⟨oth, 0, none⟩ (.slice A5 n5 c5)).setCell ⟨oth, 1, none⟩ (.int .i64 X)).setCell ⟨oth, 2, none⟩ (.int .i64 Y) = wz := ⟨_, rfl⟩
    have hbs : Below w.heap.size w2 w3 := by rw [← hw3]; exact (((Below.refl _ _).setCell howl _).setCell howl _).setCell howl _
    have HNEW_w3 := Lib.hid (show w3.heap[oth]? = some (.cells #[.slice A5 n5 c5, .int .i64 X, .int .i64 Y] 62 (0, 0)) by rw [← hw3]; exact set_self (set_self (set_self HNEW_w2.out 0 _) 1 _) 2 _)
    have HB_w3 := Lib.hid (HB_w2.out.trans hbs)
    have HO_w3 := Lib.hid (HO_w2.out.keep (w' := w3) fun p hb1 hb2 => World.cell?_of_block (by rw [← hw3]; have hne := HNE.out p.block hb1 hb2; exact (set_far _ (p := ⟨oth, 2, none⟩) hne _).trans ((set_far _ (p := ⟨oth, 1, none⟩) hne _).trans (set_far _ (p := ⟨oth, 0, none⟩) hne _))))
    have hszs : w3.heap.size = w2.heap.size := by rw [← hw3]; simp [World.setCell]
    rw [hw3]
    clear k0 k1 k2 z0 z1 z2 hbs hw3
    have hl_w3 := (HB_w3.out.block _ (heap_lt HLUG.out)).trans HLUG.out
    have hd_w3 := (HB_w3.out.block _ (heap_lt HDC.out)).trans HDC.out
    have HSI_w3 := Lib.hid (HSI.out.below HB_w3.out hiw)
    have HSK_w3 := Lib.hid (HSK.out.below HB_w3.out (Nat.le_refl _))
    have hz_w3 := HB_w3.out.size
    have HS_w3 := Lib.hid (show w3.cell? ⟨q0, 0, none⟩ = some (.slice A n c) ∧ w3.cell? ⟨q0, 1, none⟩ = some (.int .i64 W) ∧ w3.cell? ⟨q0, 2, none⟩ = some (.int .i64 B) ∧ w3.cell? ⟨q1, 0, none⟩ = some (.int .i64 X) ∧ w3.cell? ⟨q1, 1, none⟩ = some (.int .i64 Y) from ⟨cell_of hl_w3 0, cell_of hl_w3 1, cell_of hl_w3 2, cell_of hd_w3 0, cell_of hd_w3 1⟩)
    refine hK.out _ _ HS_w3.out (fun hH_w3 => ?_)
    clear hK K
    refine wpAnyH_done (by kernel_rfl) ?_ _
    clear hfl
    have HT_w3 := Lib.hid (show w3.cell? ⟨q0, 0, none⟩ = some (.slice A n c) ∧ w3.cell? ⟨q0, 1, none⟩ = some (.int .i64 W) ∧ w3.cell? ⟨q0, 2, none⟩ = some (.int .i64 B) ∧ w3.cell? ⟨oth, 0, none⟩ = some (.slice A5 n5 c5) ∧ w3.cell? ⟨oth, 1, none⟩ = some (.int .i64 X) ∧ w3.cell? ⟨oth, 2, none⟩ = some (.int .i64 Y) from ⟨cell_of hl_w3 0, cell_of hl_w3 1, cell_of hl_w3 2, cell_of HNEW_w3.out 0, cell_of HNEW_w3.out 1, cell_of HNEW_w3.out 2⟩)
    go_wp2_with fail
    refine wp_region_held_drew (S := (fun wq => wq.cell? ⟨q0, 0, none⟩ = some (.slice A n c) ∧ wq.cell? ⟨q0, 1, none⟩ = some (.int .i64 W) ∧ wq.cell? ⟨q0, 2, none⟩ = some (.int .i64 B) ∧ wq.cell? ⟨oth, 0, none⟩ = some (.slice A5 n5 c5) ∧ wq.cell? ⟨oth, 1, none⟩ = some (.int .i64 X) ∧ wq.cell? ⟨oth, 2, none⟩ = some (.int .i64 Y))) (by kernel_rfl) HT_w3.out (fun hH0 => ?_)
    obtain ⟨wd1, hwd1⟩ : ∃ wz, w3.drew = wz := ⟨_, rfl⟩
    have hbd : Below w3.heap.size w3 wd1 := by rw [← hwd1]; exact below_drewN (Below.refl _ _) 1
    rw [hwd1] at hH0 ⊢
    have HB_wd1 := Lib.hid (HB_w3.out.trans (hbd.mono hz_w3))
    have HNEW_wd1 := Lib.hid ((hbd.block _ (heap_lt HNEW_w3.out)).trans HNEW_w3.out)
    have HO_wd1 := Lib.hid (HO_w3.out.below hbd (by omega))
    have hzz_wd1 := hbd.size
    have hot_wd1 := heap_lt HNEW_wd1.out
    clear hbd
    have hl_wd1 := (HB_wd1.out.block _ (heap_lt HLUG.out)).trans HLUG.out
    have hd_wd1 := (HB_wd1.out.block _ (heap_lt HDC.out)).trans HDC.out
    have HSI_wd1 := Lib.hid (HSI.out.below HB_wd1.out hiw)
    have HSK_wd1 := Lib.hid (HSK.out.below HB_wd1.out (Nat.le_refl _))
    have hz_wd1 := HB_wd1.out.size
    have HT_wd1 := Lib.hid (show wd1.cell? ⟨q0, 0, none⟩ = some (.slice A n c) ∧ wd1.cell? ⟨q0, 1, none⟩ = some (.int .i64 W) ∧ wd1.cell? ⟨q0, 2, none⟩ = some (.int .i64 B) ∧ wd1.cell? ⟨oth, 0, none⟩ = some (.slice A5 n5 c5) ∧ wd1.cell? ⟨oth, 1, none⟩ = some (.int .i64 X) ∧ wd1.cell? ⟨oth, 2, none⟩ = some (.int .i64 Y) from ⟨cell_of hl_wd1 0, cell_of hl_wd1 1, cell_of hl_wd1 2, cell_of HNEW_wd1.out 0, cell_of HNEW_wd1.out 1, cell_of HNEW_wd1.out 2⟩)
    clear hl_wd1 hd_wd1
    clear hwd1
    refine wpAnyH_take (i := 1) (v := ?_) (ops_at rfl) (by kernel_rfl) (by kernel_rfl) (by kernel_rfl) (fun _ _ _ h => h) (Or.inl ⟨by rfl, ?yudd8_1⟩) (by assumption) ?nudd8_1
    case yudd8_1 => (intro wS hSw; (try dsimp only at hSw); go_simp; try rfl)
    try simp only [Act.put, List.setIfInBounds_toArray, List.set_cons_zero, List.set_cons_succ]
    refine wpAnyH_take (i := 2) (v := ?_) (ops_at rfl) (by kernel_rfl) (by kernel_rfl) (by kernel_rfl) (fun _ _ _ h => h) (Or.inl ⟨by rfl, ?yudd8_2⟩) (by assumption) ?nudd8_2
    case yudd8_2 => (intro wS hSw; (try dsimp only at hSw); go_simp; try rfl)
    try simp only [Act.put, List.setIfInBounds_toArray, List.set_cons_zero, List.set_cons_succ]
    refine wpAnyH_take (i := 4) (v := ?_) (ops_at rfl) (by kernel_rfl) (by kernel_rfl) (by kernel_rfl) (fun _ _ _ h => h) (Or.inl ⟨by rfl, ?yudd8_4⟩) (by assumption) ?nudd8_4
    case yudd8_4 => (intro wS hSw; (try dsimp only at hSw); go_simp; try rfl)
    try simp only [Act.put, List.setIfInBounds_toArray, List.set_cons_zero, List.set_cons_succ]
    refine wpAnyH_ready (rs := [0, 3]) (by kernel_rfl) (by simp) ?_
    refine AllReadyH.cons (ops_at rfl) (fun K hK => ?_) (AllReadyH.cons (ops_at rfl) (fun K hK => ?_) AllReadyH.nil)
    · have k0 := cell_of ((HB_wd1.out.block _ (heap_lt HV2.out)).trans HV2.out) 0
      go_simp
      refine hK.out _ _ HT_wd1.out (fun hH_wd1 => ?_)
      clear hK K
      clear k0
      refine wpAnyH_ready (rs := [3]) (by kernel_rfl) (by simp) ?_
      refine AllReadyH.cons (ops_at rfl) (fun K hK => ?_) AllReadyH.nil
      go_simp
      refine (valueOf_any A B' n c m d W B ts ks lo hi _ _ _ HN.out HG.out HM.out HINC.out HSI_wd1.out (by omega) HSK_wd1.out hz_wd1).mono ?_
      rintro e wf ⟨rfl, hb3⟩
      rw [HVAL.out]
      have HB_wf := Lib.hid (HB_wd1.out.trans (hb3.mono hz_wd1))
      have HNEW_wf := Lib.hid ((hb3.block _ (heap_lt HNEW_wd1.out)).trans HNEW_wd1.out)
      have HO_wf := Lib.hid (HO_wd1.out.below hb3 (by omega))
      have hzz_wf := hb3.size
      have hot_wf := heap_lt HNEW_wf.out
      clear hb3
      have hl_wf := (HB_wf.out.block _ (heap_lt HLUG.out)).trans HLUG.out
      have hd_wf := (HB_wf.out.block _ (heap_lt HDC.out)).trans HDC.out
      have HSI_wf := Lib.hid (HSI.out.below HB_wf.out hiw)
      have HSK_wf := Lib.hid (HSK.out.below HB_wf.out (Nat.le_refl _))
      have hz_wf := HB_wf.out.size
      have HT_wf := Lib.hid (show wf.cell? ⟨q0, 0, none⟩ = some (.slice A n c) ∧ wf.cell? ⟨q0, 1, none⟩ = some (.int .i64 W) ∧ wf.cell? ⟨q0, 2, none⟩ = some (.int .i64 B) ∧ wf.cell? ⟨oth, 0, none⟩ = some (.slice A5 n5 c5) ∧ wf.cell? ⟨oth, 1, none⟩ = some (.int .i64 X) ∧ wf.cell? ⟨oth, 2, none⟩ = some (.int .i64 Y) from ⟨cell_of hl_wf 0, cell_of hl_wf 1, cell_of hl_wf 2, cell_of HNEW_wf.out 0, cell_of HNEW_wf.out 1, cell_of HNEW_wf.out 2⟩)
      clear hl_wf hd_wf
      refine hK.out _ _ HT_wf.out (fun hH_wf => ?_)
      clear hK K
      refine wpAnyH_ready (rs := [5]) (by kernel_rfl) (by simp) ?_
      refine AllReadyH.cons (ops_at rfl) (fun K hK => ?_) AllReadyH.nil
      go_simp
      refine (best_any A5 n5 c5 X Y (restI ts ks) _ _ _ HN5.out HOKR.out hX hY HO_wf.out (by omega)).mono ?_
      rintro e wg ⟨A6, n6, c6, rfl, _, _, hb6⟩
      have hfw := field_worth (topI (restI ts ks) X Y).1 A6 n6 c6 ((topI (restI ts ks) X Y).2.2 : Nat)
      rw [HTOP.out] at hfw ⊢
      have HB_wg := Lib.hid (HB_wf.out.trans (hb6.mono hz_wf))
      have HNEW_wg := Lib.hid ((hb6.block _ (heap_lt HNEW_wf.out)).trans HNEW_wf.out)
      have HO_wg := Lib.hid (HO_wf.out.below hb6 (by omega))
      have hzz_wg := hb6.size
      have hot_wg := heap_lt HNEW_wg.out
      clear hb6
      have hl_wg := (HB_wg.out.block _ (heap_lt HLUG.out)).trans HLUG.out
      have hd_wg := (HB_wg.out.block _ (heap_lt HDC.out)).trans HDC.out
      have HSI_wg := Lib.hid (HSI.out.below HB_wg.out hiw)
      have HSK_wg := Lib.hid (HSK.out.below HB_wg.out (Nat.le_refl _))
      have hz_wg := HB_wg.out.size
      have HT_wg := Lib.hid (show wg.cell? ⟨q0, 0, none⟩ = some (.slice A n c) ∧ wg.cell? ⟨q0, 1, none⟩ = some (.int .i64 W) ∧ wg.cell? ⟨q0, 2, none⟩ = some (.int .i64 B) ∧ wg.cell? ⟨oth, 0, none⟩ = some (.slice A5 n5 c5) ∧ wg.cell? ⟨oth, 1, none⟩ = some (.int .i64 X) ∧ wg.cell? ⟨oth, 2, none⟩ = some (.int .i64 Y) from ⟨cell_of hl_wg 0, cell_of hl_wg 1, cell_of hl_wg 2, cell_of HNEW_wg.out 0, cell_of HNEW_wg.out 1, cell_of HNEW_wg.out 2⟩)
      clear hl_wg hd_wg
      refine hK.out _ _ HT_wg.out (fun hH_wg => ?_)
      clear hK K
      refine wpAnyH_take (i := 6) (v := ?_) (ops_at rfl) (by kernel_rfl) (by kernel_rfl) (by kernel_rfl) (fun _ _ _ h => h) (Or.inl ⟨by rfl, ?yuee9_6⟩) (by assumption) ?nuee9_6
      case yuee9_6 => (intro wS hSw; (try dsimp only at hSw); go_simp; try rfl)
      try simp only [Act.put, List.setIfInBounds_toArray, List.set_cons_zero, List.set_cons_succ]
      refine wpAnyH_take (i := 7) (v := ?_) (ops_at rfl) (by kernel_rfl) (by kernel_rfl) (by kernel_rfl) (fun _ _ _ h => h) (Or.inl ⟨by rfl, ?yuee9_7⟩) (by assumption) ?nuee9_7
      case yuee9_7 => (intro wS hSw; (try dsimp only at hSw); go_simp; try rfl)
      try simp only [Act.put, List.setIfInBounds_toArray, List.set_cons_zero, List.set_cons_succ]
      refine wpAnyH_ready (rs := [8]) (by kernel_rfl) (by simp) ?_
      refine AllReadyH.cons (ops_at rfl) (fun K hK => ?_) AllReadyH.nil
      go_simp
      try rw [HADD.out]
      refine hK.out _ _ HT_wg.out (fun hH_wg => ?_)
      clear hK K
      refine wpAnyH_ready (rs := [9]) (by kernel_rfl) (by simp) ?_
      refine AllReadyH.cons (ops_at rfl) (fun K hK => ?_) AllReadyH.nil
      have k0 := cell_of ((HB_wg.out.block _ (heap_lt HV2.out)).trans HV2.out) 0
      have z0 := frozen_of ((HB_wg.out.block _ (heap_lt HV2.out)).trans HV2.out) 0
      go_simp
      have hl9 := (set_far wg (p := ⟨q2, 0, none⟩) h02 (.int .i64 (max g0 (v1 + v2)))).trans ((HB_wg.out.block _ (heap_lt HLUG.out)).trans HLUG.out)
      have ho9 := (set_far wg (p := ⟨q2, 0, none⟩) (by show oth ≠ q2; omega) (.int .i64 (max g0 (v1 + v2)))).trans HNEW_wg.out
      refine hK.out _ _ ⟨cell_of hl9 0, cell_of hl9 1, cell_of hl9 2, cell_of ho9 0, cell_of ho9 1, cell_of ho9 2⟩ (fun hH9 => ?_)
      clear hK K hl9 ho9 k0 z0
      refine wpAnyH_done (by kernel_rfl) ?_ _
      go_wp2
      go_end0
      exact HEND.out _ HB_wg.out
    · go_simp
      refine (valueOf_any A B' n c m d W B ts ks lo hi _ _ _ HN.out HG.out HM.out HINC.out HSI_wd1.out (by omega) HSK_wd1.out hz_wd1).mono ?_
      rintro e wf ⟨rfl, hb3⟩
      rw [HVAL.out]
      have HB_wf := Lib.hid (HB_wd1.out.trans (hb3.mono hz_wd1))
      have HNEW_wf := Lib.hid ((hb3.block _ (heap_lt HNEW_wd1.out)).trans HNEW_wd1.out)
      have HO_wf := Lib.hid (HO_wd1.out.below hb3 (by omega))
      have hzz_wf := hb3.size
      have hot_wf := heap_lt HNEW_wf.out
      clear hb3
      have hl_wf := (HB_wf.out.block _ (heap_lt HLUG.out)).trans HLUG.out
      have hd_wf := (HB_wf.out.block _ (heap_lt HDC.out)).trans HDC.out
      have HSI_wf := Lib.hid (HSI.out.below HB_wf.out hiw)
      have HSK_wf := Lib.hid (HSK.out.below HB_wf.out (Nat.le_refl _))
      have hz_wf := HB_wf.out.size
      have HT_wf := Lib.hid (show wf.cell? ⟨q0, 0, none⟩ = some (.slice A n c) ∧ wf.cell? ⟨q0, 1, none⟩ = some (.int .i64 W) ∧ wf.cell? ⟨q0, 2, none⟩ = some (.int .i64 B) ∧ wf.cell? ⟨oth, 0, none⟩ = some (.slice A5 n5 c5) ∧ wf.cell? ⟨oth, 1, none⟩ = some (.int .i64 X) ∧ wf.cell? ⟨oth, 2, none⟩ = some (.int .i64 Y) from ⟨cell_of hl_wf 0, cell_of hl_wf 1, cell_of hl_wf 2, cell_of HNEW_wf.out 0, cell_of HNEW_wf.out 1, cell_of HNEW_wf.out 2⟩)
      clear hl_wf hd_wf
      refine hK.out _ _ HT_wf.out (fun hH_wf => ?_)
      clear hK K
      refine wpAnyH_ready (rs := [0, 5]) (by kernel_rfl) (by simp) ?_
      refine AllReadyH.cons (ops_at rfl) (fun K hK => ?_) (AllReadyH.cons (ops_at rfl) (fun K hK => ?_) AllReadyH.nil)
      · have k0 := cell_of ((HB_wf.out.block _ (heap_lt HV2.out)).trans HV2.out) 0
        go_simp
        refine hK.out _ _ HT_wf.out (fun hH_wf => ?_)
        clear hK K
        clear k0
        refine wpAnyH_ready (rs := [5]) (by kernel_rfl) (by simp) ?_
        refine AllReadyH.cons (ops_at rfl) (fun K hK => ?_) AllReadyH.nil
        go_simp
        refine (best_any A5 n5 c5 X Y (restI ts ks) _ _ _ HN5.out HOKR.out hX hY HO_wf.out (by omega)).mono ?_
        rintro e wg ⟨A6, n6, c6, rfl, _, _, hb6⟩
        have hfw := field_worth (topI (restI ts ks) X Y).1 A6 n6 c6 ((topI (restI ts ks) X Y).2.2 : Nat)
        rw [HTOP.out] at hfw ⊢
        have HB_wg := Lib.hid (HB_wf.out.trans (hb6.mono hz_wf))
        have HNEW_wg := Lib.hid ((hb6.block _ (heap_lt HNEW_wf.out)).trans HNEW_wf.out)
        have HO_wg := Lib.hid (HO_wf.out.below hb6 (by omega))
        have hzz_wg := hb6.size
        have hot_wg := heap_lt HNEW_wg.out
        clear hb6
        have hl_wg := (HB_wg.out.block _ (heap_lt HLUG.out)).trans HLUG.out
        have hd_wg := (HB_wg.out.block _ (heap_lt HDC.out)).trans HDC.out
        have HSI_wg := Lib.hid (HSI.out.below HB_wg.out hiw)
        have HSK_wg := Lib.hid (HSK.out.below HB_wg.out (Nat.le_refl _))
        have hz_wg := HB_wg.out.size
        have HT_wg := Lib.hid (show wg.cell? ⟨q0, 0, none⟩ = some (.slice A n c) ∧ wg.cell? ⟨q0, 1, none⟩ = some (.int .i64 W) ∧ wg.cell? ⟨q0, 2, none⟩ = some (.int .i64 B) ∧ wg.cell? ⟨oth, 0, none⟩ = some (.slice A5 n5 c5) ∧ wg.cell? ⟨oth, 1, none⟩ = some (.int .i64 X) ∧ wg.cell? ⟨oth, 2, none⟩ = some (.int .i64 Y) from ⟨cell_of hl_wg 0, cell_of hl_wg 1, cell_of hl_wg 2, cell_of HNEW_wg.out 0, cell_of HNEW_wg.out 1, cell_of HNEW_wg.out 2⟩)
        clear hl_wg hd_wg
        refine hK.out _ _ HT_wg.out (fun hH_wg => ?_)
        clear hK K
        refine wpAnyH_take (i := 6) (v := ?_) (ops_at rfl) (by kernel_rfl) (by kernel_rfl) (by kernel_rfl) (fun _ _ _ h => h) (Or.inl ⟨by rfl, ?yuff10_6⟩) (by assumption) ?nuff10_6
        case yuff10_6 => (intro wS hSw; (try dsimp only at hSw); go_simp; try rfl)
        try simp only [Act.put, List.setIfInBounds_toArray, List.set_cons_zero, List.set_cons_succ]
        refine wpAnyH_take (i := 7) (v := ?_) (ops_at rfl) (by kernel_rfl) (by kernel_rfl) (by kernel_rfl) (fun _ _ _ h => h) (Or.inl ⟨by rfl, ?yuff10_7⟩) (by assumption) ?nuff10_7
        case yuff10_7 => (intro wS hSw; (try dsimp only at hSw); go_simp; try rfl)
        try simp only [Act.put, List.setIfInBounds_toArray, List.set_cons_zero, List.set_cons_succ]
        refine wpAnyH_ready (rs := [8]) (by kernel_rfl) (by simp) ?_
        refine AllReadyH.cons (ops_at rfl) (fun K hK => ?_) AllReadyH.nil
        go_simp
        try rw [HADD.out]
        refine hK.out _ _ HT_wg.out (fun hH_wg => ?_)
        clear hK K
        refine wpAnyH_ready (rs := [9]) (by kernel_rfl) (by simp) ?_
        refine AllReadyH.cons (ops_at rfl) (fun K hK => ?_) AllReadyH.nil
        have k0 := cell_of ((HB_wg.out.block _ (heap_lt HV2.out)).trans HV2.out) 0
        have z0 := frozen_of ((HB_wg.out.block _ (heap_lt HV2.out)).trans HV2.out) 0
        go_simp
        have hl9 := (set_far wg (p := ⟨q2, 0, none⟩) h02 (.int .i64 (max g0 (v1 + v2)))).trans ((HB_wg.out.block _ (heap_lt HLUG.out)).trans HLUG.out)
        have ho9 := (set_far wg (p := ⟨q2, 0, none⟩) (by show oth ≠ q2; omega) (.int .i64 (max g0 (v1 + v2)))).trans HNEW_wg.out
        refine hK.out _ _ ⟨cell_of hl9 0, cell_of hl9 1, cell_of hl9 2, cell_of ho9 0, cell_of ho9 1, cell_of ho9 2⟩ (fun hH9 => ?_)
        clear hK K hl9 ho9 k0 z0
        refine wpAnyH_done (by kernel_rfl) ?_ _
        go_wp2
        go_end0
        exact HEND.out _ HB_wg.out
      · go_simp
        refine (best_any A5 n5 c5 X Y (restI ts ks) _ _ _ HN5.out HOKR.out hX hY HO_wf.out (by omega)).mono ?_
        rintro e wg ⟨A6, n6, c6, rfl, _, _, hb6⟩
        have hfw := field_worth (topI (restI ts ks) X Y).1 A6 n6 c6 ((topI (restI ts ks) X Y).2.2 : Nat)
        rw [HTOP.out] at hfw ⊢
        have HB_wg := Lib.hid (HB_wf.out.trans (hb6.mono hz_wf))
        have HNEW_wg := Lib.hid ((hb6.block _ (heap_lt HNEW_wf.out)).trans HNEW_wf.out)
        have HO_wg := Lib.hid (HO_wf.out.below hb6 (by omega))
        have hzz_wg := hb6.size
        have hot_wg := heap_lt HNEW_wg.out
        clear hb6
        have hl_wg := (HB_wg.out.block _ (heap_lt HLUG.out)).trans HLUG.out
        have hd_wg := (HB_wg.out.block _ (heap_lt HDC.out)).trans HDC.out
        have HSI_wg := Lib.hid (HSI.out.below HB_wg.out hiw)
        have HSK_wg := Lib.hid (HSK.out.below HB_wg.out (Nat.le_refl _))
        have hz_wg := HB_wg.out.size
        have HT_wg := Lib.hid (show wg.cell? ⟨q0, 0, none⟩ = some (.slice A n c) ∧ wg.cell? ⟨q0, 1, none⟩ = some (.int .i64 W) ∧ wg.cell? ⟨q0, 2, none⟩ = some (.int .i64 B) ∧ wg.cell? ⟨oth, 0, none⟩ = some (.slice A5 n5 c5) ∧ wg.cell? ⟨oth, 1, none⟩ = some (.int .i64 X) ∧ wg.cell? ⟨oth, 2, none⟩ = some (.int .i64 Y) from ⟨cell_of hl_wg 0, cell_of hl_wg 1, cell_of hl_wg 2, cell_of HNEW_wg.out 0, cell_of HNEW_wg.out 1, cell_of HNEW_wg.out 2⟩)
        clear hl_wg hd_wg
        refine hK.out _ _ HT_wg.out (fun hH_wg => ?_)
        clear hK K
        refine wpAnyH_take (i := 6) (v := ?_) (ops_at rfl) (by kernel_rfl) (by kernel_rfl) (by kernel_rfl) (fun _ _ _ h => h) (Or.inl ⟨by rfl, ?yugg11_6⟩) (by assumption) ?nugg11_6
        case yugg11_6 => (intro wS hSw; (try dsimp only at hSw); go_simp; try rfl)
        try simp only [Act.put, List.setIfInBounds_toArray, List.set_cons_zero, List.set_cons_succ]
        refine wpAnyH_take (i := 7) (v := ?_) (ops_at rfl) (by kernel_rfl) (by kernel_rfl) (by kernel_rfl) (fun _ _ _ h => h) (Or.inl ⟨by rfl, ?yugg11_7⟩) (by assumption) ?nugg11_7
        case yugg11_7 => (intro wS hSw; (try dsimp only at hSw); go_simp; try rfl)
        try simp only [Act.put, List.setIfInBounds_toArray, List.set_cons_zero, List.set_cons_succ]
        refine wpAnyH_ready (rs := [0]) (by kernel_rfl) (by simp) ?_
        refine AllReadyH.cons (ops_at rfl) (fun K hK => ?_) AllReadyH.nil
        have k0 := cell_of ((HB_wg.out.block _ (heap_lt HV2.out)).trans HV2.out) 0
        go_simp
        refine hK.out _ _ HT_wg.out (fun hH_wg => ?_)
        clear hK K
        clear k0
        refine wpAnyH_ready (rs := [8]) (by kernel_rfl) (by simp) ?_
        refine AllReadyH.cons (ops_at rfl) (fun K hK => ?_) AllReadyH.nil
        go_simp
        try rw [HADD.out]
        refine hK.out _ _ HT_wg.out (fun hH_wg => ?_)
        clear hK K
        refine wpAnyH_ready (rs := [9]) (by kernel_rfl) (by simp) ?_
        refine AllReadyH.cons (ops_at rfl) (fun K hK => ?_) AllReadyH.nil
        have k0 := cell_of ((HB_wg.out.block _ (heap_lt HV2.out)).trans HV2.out) 0
        have z0 := frozen_of ((HB_wg.out.block _ (heap_lt HV2.out)).trans HV2.out) 0
        go_simp
        have hl9 := (set_far wg (p := ⟨q2, 0, none⟩) h02 (.int .i64 (max g0 (v1 + v2)))).trans ((HB_wg.out.block _ (heap_lt HLUG.out)).trans HLUG.out)
        have ho9 := (set_far wg (p := ⟨q2, 0, none⟩) (by show oth ≠ q2; omega) (.int .i64 (max g0 (v1 + v2)))).trans HNEW_wg.out
        refine hK.out _ _ ⟨cell_of hl9 0, cell_of hl9 1, cell_of hl9 2, cell_of ho9 0, cell_of ho9 1, cell_of ho9 2⟩ (fun hH9 => ?_)
        clear hK K hl9 ho9 k0 z0
        refine wpAnyH_done (by kernel_rfl) ?_ _
        go_wp2
        go_end0
        exact HEND.out _ HB_wg.out
end Go.Proofs.Ytmgloknghoeheaa

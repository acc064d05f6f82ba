/-
  Both programs' things in each box of a plan.
  Conditions: lists of at most 1048576 numbers.
-/
import Derived.Test.YtplohhmggfifkabBoxRows
import Derived.Test.YtplohhmggfifkabSpecLoads
namespace Go.Proofs.Ytplohhmggfifkab
set_option linter.unusedVariables false
open Go.RowKit

/-- The things in each box. -/
def boxesM (room : Int) (xs plan : List Int) : List (List Int) := match packM room xs plan with
  | some ls => (List.range ls.length).map (boxL plan plan.length)
  | none => []

theorem boxesM_none {room : Int} {xs plan : List Int} (h : packM room xs plan = none) : boxesM room xs plan = [] := by rw [boxesM, h]
theorem boxesM_some {room : Int} {xs plan ls : List Int} (h : packM room xs plan = some ls) : boxesM room xs plan = (List.range ls.length).map (boxL plan plan.length) := by rw [boxesM, h]

theorem packM_bounds {room : Int} {xs plan ls : List Int} (h : packM room xs plan = some ls) : ls.length ≤ 9 ∧ plan.length ≤ 9 ∧ ∀ (j : Nat) u, plan[j]? = some u → 0 ≤ u ∧ u < ls.length := by
  refine ⟨packM_len h, ?_⟩
  unfold packM at h
  split at h
  · next ha =>
    obtain ⟨_, h9, _⟩ := askedB_at ha
    obtain ⟨h1, h2⟩ := loads_bounds h
    exact ⟨by omega, h2⟩
  · cases h

theorem sums_le {xss : List (List Int)} {m : Nat} (h : ∀ xs ∈ xss, xs.length ≤ m) : sums xss xss.length ≤ m * xss.length := by
  rw [sums, List.take_length]
  induction xss with
  | nil => simp
  | cons x r ih =>
    have h1 := h x (List.mem_cons_self ..)
    have h2 := ih (fun y hy => h y (List.mem_cons_of_mem _ hy))
    have h3 : m * (r.length + 1) = m * r.length + m := Nat.mul_succ _ _
    simp only [List.map_cons, List.sum_cons, List.length_cons]
    omega

theorem boxesM_small (room : Int) (xs plan : List Int) : (boxesM room xs plan).length ≤ 9 ∧ (∀ ys ∈ boxesM room xs plan, ys.length ≤ 9) ∧ sums (boxesM room xs plan) (boxesM room xs plan).length ≤ 81 := by
  cases h : packM room xs plan with
  | none => rw [boxesM_none h]; simp [sums]
  | some ls =>
    obtain ⟨h1, h2, _⟩ := packM_bounds h
    have hx : ∀ ys ∈ boxesM room xs plan, ys.length ≤ 9 := by
      rw [boxesM_some h]
      intro ys hy
      obtain ⟨b, _, rfl⟩ := List.mem_map.1 hy
      exact Nat.le_trans (boxL_length _ _ _) h2
    have hl : (boxesM room xs plan).length ≤ 9 := by rw [boxesM_some h]; simpa using h1
    have := sums_le hx
    exact ⟨hl, hx, by omega⟩

theorem slice_info : (Try.prog.info? 22).map (fun i => (i.zero, i.size, i.bytes)) = some (some (.slice none 0 0), 1, 24) := by kernel_rfl

/-- Lists of lists and a bool are answered. -/
def RetN (b : Bool) (yss : List (List Int)) (w : World) (e : Ending) (w' : World) : Prop :=
  ∃ A n c, e = .returned (.tuple #[.slice A n c, .bool b]) ∧ yss.length = n ∧ Nest w' w.heap.size w'.heap.size A yss ∧ Below w.heap.size w w'

theorem one_cell {w : World} (v : Value) (T : Nat) : (w.alloc (.cells #[v] T)).cell? ⟨w.heap.size, 0, none⟩ = some v := cell_of (new_at w _ rfl) 0

section
variable (A D : Option Addr) (n c m d : Nat) (room : Int) (xs plan : List Int) (lo hi lo' hi' : Nat) (w : World)

set_option maxRecDepth 100000 in
set_option maxHeartbeats 2000000 in
theorem spec_BoxesOf (hn : xs.length = n) (hm : plan.length = m) (hn2 : n ≤ 1048576) (hm2 : m ≤ 1048576) (hs : Seg w lo hi A xs) (ho : Seg w lo' hi' D plan) (hB : hi ≤ w.heap.size) (hB' : hi' ≤ w.heap.size)
    (p : Bool) (hp : (packM room xs plan).isSome = p) :
    Calls Try.prog 21 #[.slice A n c, .int .i64 room, .slice D m d] w (RetN p (boxesM room xs plan) w) := by
  obtain ⟨i0, hi0, hz0, hz1, hz2⟩ := info_parts int_info
  have HN := Lib.hid hn
  have HM := Lib.hid hm
  have HP := Lib.hid hp
  cases hls : packM room xs plan with
  | none =>
    obtain rfl : p = false := by rw [← hp, hls]; rfl
    have HR := Lib.hid hls
    clear hn hm hp hls
    go_enter Try.func21, Try.ntmps21
    go_wp2_with fail
    refine (spec_LoadsOf A D n c m d room xs plan lo hi lo' hi' _ HN.out HM.out hn2 hm2 hs ho hB hB' false HP.out).mono ?_
    rintro e w1 ⟨A1, n1, c1, rfl, _, _, hb1⟩
    go_wp2
    go_ret2
    exact ⟨none, 0, 0, rfl, by rw [boxesM_none HR.out]; rfl, by rw [boxesM_none HR.out]; exact Nest.nil_, hb1⟩
  | some ls =>
    obtain rfl : p = true := by rw [← hp, hls]; rfl
    obtain ⟨hl9, hm9, hbd⟩ := packM_bounds hls
    have hg : (packM room xs plan).getD [] = ls := by rw [hls]; rfl
    have HR := Lib.hid hls
    have HBD := Lib.hid hbd
    have HGD := Lib.hid hg
    rw [hm] at hm9
    have hmk := fun W : World => run_make_row' 29 22 (.slice none 0 0) 24 Try.underlying29 slice_info rfl .i64 .i64 ls.length (by omega) (by omega) W
    clear hn hm hp hls hbd hg
    go_enter Try.func21, Try.ntmps21
    go_wp2_with fail
    refine (spec_LoadsOf A D n c m d room xs plan lo hi lo' hi' _ HN.out HM.out hn2 hm2 hs ho hB hB' true HP.out).mono ?_
    rw [HGD.out]
    rintro e w1 ⟨A1, n1, c1, rfl, hl1, _, hb1⟩
    subst hl1
    have hy1 := hb1.size
    have HO := Lib.hid ((ho.below hb1 hB').more (Nat.le_refl _) (Nat.le_trans hB' hy1))
    have HR0 := Lib.hid (rowz_new w1 22 ls.length (boxL plan 0) (boxL_zero plan))
    have HB0 := Lib.hid ((Below.refl w1.heap.size w1).alloc (Nat.le_refl _) (.cells (madeCells #[.slice none 0 0] ls.length) 22))
    go_wp2
    clear hmk
    go_loopw [27] (fun i wr => ∃ k : Nat, k ≤ m ∧ i = .int .i64 k ∧ Below w1.heap.size w1 wr ∧ Hid (Rowz wr w1.heap.size 22 ls.length (boxL plan k))) (fun i _ => m - (intOf i).toNat)
    case atStart => exact ⟨0, Nat.zero_le _, rfl, HB0.out, HR0.out⟩
    case round =>
      obtain ⟨k, hk, rfl, hbr, hrz⟩ := hrel
      have hzr := hbr.size
      by_cases hlt : k < m
      · obtain ⟨bq, oq, u, rfl, _, _, hx, hc⟩ := ((HO.out).below hbr (Nat.le_refl _)).at_ (k := k) (by rw [HM.out]; exact hlt)
        obtain ⟨p, rfl⟩ : ∃ p : Nat, u = (p : Int) := ⟨u.toNat, by have := HBD.out k u hx; omega⟩
        have hpn : p < ls.length := by have := HBD.out k p hx; omega
        have HX := Lib.hid hx
        have hGl := hrz.out.lt
        obtain ⟨cs, vs, hG, hsz, hr, hd⟩ := hrz.out
        obtain ⟨hcp, hop⟩ := hr p hpn
        have hcell : wr.cell? ⟨w1.heap.size, p, none⟩ = some (vs p) := (cell_of hG p).trans hcp
        have HOP := Lib.hid (hop.alloc (.cells #[.int .i64 k] 3))
        have HG := Lib.hid hG
        have HSZ := Lib.hid hsz
        have HRR := Lib.hid hr
        have HDD := Lib.hid hd
        have hlen : (boxL plan k p).length ≤ 1048576 := by have := boxL_length plan k p; omega
        have hpl := HOP.out.lt
        have HPL := Lib.hid hop.lt
        clear hx hG hsz hr hd hcp hop hrz
        go_wp2_with (at_builtin; refine wpList_append_ownB _ rfl _ _ 22 rfl (w1.heap.size + 1) 3 i0 Try.underlying22 hi0 hz0 hz1 hz2 _ _ _ rfl HOP.out wr.heap.size 1 (.int .i64 k) rfl (one_cell _ _) rfl hlen (by simp; omega) ?_; intro v' w2 hown2 hgr2 hv2; obtain ⟨Av, cv, rfl⟩ := ownsRow_form hown2; have hG2 : w2.heap[w1.heap.size]? = some (.cells cs 22 (0, 0)) := (hgr2.block w1.heap.size (by simp; omega) (fun e => by have := HPL.out w1.heap.size e.symm; omega)).trans ((alloc_old wr hGl _).trans HG.out); have hcell2 : w2.cell? ⟨w1.heap.size, p, none⟩ = some (vs p) := (cell_of hG2 p).trans ((cell_of HG.out p).symm.trans hcell); have hfz2 : w2.frozen? ⟨w1.heap.size, p, none⟩ = false := frozen_of hG2 p; have HST := Lib.hid (Rowz.step (f' := boxL plan (k + 1)) HG.out HSZ.out HRR.out HDD.out hpn _ rfl hown2 hgr2 hv2 (boxL_here HX.out) (fun c hc => boxL_far HX.out hc)); have HBB := Lib.hid ((hbr.alloc hzr (.cells #[.int .i64 k] 3)).grown hgr2 (by simp; omega) (fun g hg => by have := HPL.out g hg; omega)); clear hown2 hgr2 hv2 hG2)
        go_roundw
        case rel => exact ⟨k + 1, by omega, by go_num, HBB.out.setCell (by first | exact Nat.le_refl _ | exact Nat.le_of_eq hsz1) _, HST.out⟩
        case measure => simp [intOf]; omega
      · obtain rfl : k = m := by omega
        have HNE := Lib.hid (hrz.out.nest (lo := w.heap.size) (by omega))
        clear hrz
        go_wp2
        go_ret2
        exact ⟨_, _, _, rfl, by rw [boxesM_some HR.out]; simp, by rw [boxesM_some HR.out, HM.out]; exact HNE.out, hb1.trans (hbr.mono hy1)⟩

set_option maxRecDepth 100000 in
set_option maxHeartbeats 2000000 in
theorem impl_BoxesOf (hn : xs.length = n) (hm : plan.length = m) (hn2 : n ≤ 1048576) (hm2 : m ≤ 1048576) (hs : Seg w lo hi A xs) (ho : Seg w lo' hi' D plan) (hB : hi ≤ w.heap.size) (hB' : hi' ≤ w.heap.size)
    (p : Bool) (hp : (packM room xs plan).isSome = p) :
    Calls Try.prog 22 #[.slice A n c, .int .i64 room, .slice D m d] w (RetN p (boxesM room xs plan) w) := by
  obtain ⟨i0, hi0, hz0, hz1, hz2⟩ := info_parts int_info
  have HN := Lib.hid hn
  have HM := Lib.hid hm
  have HP := Lib.hid hp
  clear hn hm hp
  go_enter Try.func22, Try.ntmps22
  go_wp2_with fail
  refine (packByPlan_any A D n c m d room xs plan lo hi lo' hi' _ HN.out HM.out hn2 hm2 hs ho hB hB').mono ?_
  rintro e w0 (⟨hr, rfl, hb⟩ | ⟨ls, Bo, Bp, hr, rfl, _, _, _, _, _, hb⟩)
  · obtain rfl : p = false := by rw [← HP.out, hr]; rfl
    have hz := hb.size
    have HR := Lib.hid hr
    clear hr
    go_wp2
    go_ret2
    exact ⟨none, 0, 0, rfl, by rw [boxesM_none HR.out]; rfl, by rw [boxesM_none HR.out]; exact Nest.nil_, hb.alloc hz _⟩
  · obtain rfl : p = true := by rw [← HP.out, hr]; rfl
    have hz := hb.size
    obtain ⟨hl9, hm9, hbd⟩ := packM_bounds hr
    rw [HM.out] at hm9
    have HR := Lib.hid hr
    have HBD := Lib.hid hbd
    have hmk := fun W : World => run_make_row' 29 22 (.slice none 0 0) 24 Try.underlying29 slice_info rfl .i64 .i64 ls.length (by omega) (by omega) W
    clear hr hbd
    obtain ⟨w1, hw1⟩ : ∃ w1, w1 = w0.alloc (.cells #[.int .i64 (ls.length : Int), .int .i64 0, .int .i64 room, .slice (some ⟨Bo, 0, none⟩) ls.length n, .slice (some ⟨Bp, 0, none⟩) n n] 54) := ⟨_, rfl⟩
    have hb1 : Below w.heap.size w w1 := by rw [hw1]; exact hb.alloc hz _
    have hy1 := hb1.size
    have hsz1 : w1.heap.size = w0.heap.size + 1 := by rw [hw1]; simp
    have HO := Lib.hid ((ho.below hb1 hB').more (Nat.le_refl _) (Nat.le_trans hB' hy1))
    have hr0 := rowz_new w1 22 ls.length (boxL plan 0) (boxL_zero plan)
    rw [hsz1] at hr0
    have HR0 := Lib.hid hr0
    clear hr0
    have HB0 := Lib.hid ((Below.refl w1.heap.size w1).alloc (Nat.le_refl _) (.cells (madeCells #[.slice none 0 0] ls.length) 22))
    have HW := Lib.hid hw1
    clear hw1
    go_wp2
    clear hmk
    rw [← HW.out]
    go_loopw [28] (fun i wr => ∃ k : Nat, k ≤ m ∧ i = .int .i64 k ∧ Below w1.heap.size w1 wr ∧ Hid (Rowz wr (w0.heap.size + 1) 22 ls.length (boxL plan k))) (fun i _ => m - (intOf i).toNat)
    case atStart => exact ⟨0, Nat.zero_le _, rfl, HB0.out, HR0.out⟩
    case round =>
      obtain ⟨k, hk, rfl, hbr, hrz⟩ := hrel
      have hzr := hbr.size
      by_cases hlt : k < m
      · obtain ⟨bq, oq, u, rfl, _, _, hx, hc⟩ := ((HO.out).below hbr (Nat.le_refl _)).at_ (k := k) (by rw [HM.out]; exact hlt)
        obtain ⟨p, rfl⟩ : ∃ p : Nat, u = (p : Int) := ⟨u.toNat, by have := HBD.out k u hx; omega⟩
        have hpn : p < ls.length := by have := HBD.out k p hx; omega
        have HX := Lib.hid hx
        have hGl := hrz.out.lt
        obtain ⟨cs, vs, hG, hsz, hr, hd⟩ := hrz.out
        obtain ⟨hcp, hop⟩ := hr p hpn
        have hcell : wr.cell? ⟨(w0.heap.size + 1), p, none⟩ = some (vs p) := (cell_of hG p).trans hcp
        have HOP := Lib.hid (hop.alloc (.cells #[.int .i64 k] 3))
        have HG := Lib.hid hG
        have HSZ := Lib.hid hsz
        have HRR := Lib.hid hr
        have HDD := Lib.hid hd
        have hlen : (boxL plan k p).length ≤ 1048576 := by have := boxL_length plan k p; omega
        have hpl := HOP.out.lt
        have HPL := Lib.hid hop.lt
        clear hx hG hsz hr hd hcp hop hrz
        go_wp2_with (at_builtin; refine wpList_append_ownB _ rfl _ _ 22 rfl ((w0.heap.size + 1) + 1) 3 i0 Try.underlying22 hi0 hz0 hz1 hz2 _ _ _ rfl HOP.out wr.heap.size 1 (.int .i64 k) rfl (one_cell _ _) rfl hlen (by simp; omega) ?_; intro v' w2 hown2 hgr2 hv2; obtain ⟨Av, cv, rfl⟩ := ownsRow_form hown2; have hG2 : w2.heap[(w0.heap.size + 1)]? = some (.cells cs 22 (0, 0)) := (hgr2.block (w0.heap.size + 1) (by simp; omega) (fun e => by have := HPL.out (w0.heap.size + 1) e.symm; omega)).trans ((alloc_old wr hGl _).trans HG.out); have hcell2 : w2.cell? ⟨(w0.heap.size + 1), p, none⟩ = some (vs p) := (cell_of hG2 p).trans ((cell_of HG.out p).symm.trans hcell); have hfz2 : w2.frozen? ⟨(w0.heap.size + 1), p, none⟩ = false := frozen_of hG2 p; have HST := Lib.hid (Rowz.step (f' := boxL plan (k + 1)) HG.out HSZ.out HRR.out HDD.out hpn _ rfl hown2 hgr2 hv2 (boxL_here HX.out) (fun c hc => boxL_far HX.out hc)); have HBB := Lib.hid ((hbr.alloc hzr (.cells #[.int .i64 k] 3)).grown hgr2 (by simp; omega) (fun g hg => by have := HPL.out g hg; omega)); clear hown2 hgr2 hv2 hG2)
        go_roundw
        case rel => exact ⟨k + 1, by omega, by go_num, HBB.out.setCell (by first | exact Nat.le_refl _ | exact Nat.le_of_eq hsz1) _, HST.out⟩
        case measure => simp [intOf]; omega
      · obtain rfl : k = m := by omega
        have HNE := Lib.hid (hrz.out.nest (lo := w.heap.size) (by omega))
        clear hrz
        go_wp2
        go_ret2
        exact ⟨_, _, _, rfl, by rw [boxesM_some HR.out]; simp, by rw [boxesM_some HR.out, HM.out]; exact HNE.out, hb1.trans (hbr.mono hy1)⟩
end
end Go.Proofs.Ytplohhmggfifkab

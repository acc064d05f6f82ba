/-
  Both programs' text of pieces, or that there is none.
  Conditions: at most 1048576 pieces; the library's table of powers of ten reads as it is written.
-/
import Derived.Test.YtjpejhpilfjheacDoorTxPc
namespace Go.Proofs.YtjpejhpilfjheacDoor
set_option linter.unusedVariables false
open Go.RowKit

/-- A text and a bool are answered. -/
def RetTKZ (b : Bool) (t : ByteArray) (w : World) (e : Ending) (w' : World) : Prop := e = .returned (.tuple #[.string t, .bool b]) ∧ Below w.heap.size w w'

/-- A text, if there is one. -/
def someKZ (b : Bool) (t : ByteArray) : ByteArray := if b = true then t else ⟨#[]⟩

theorem good_plainNZ {bs : List (Int × Int × Int)} (h : goodPc bs = true) : plainNZ bs := by
  intro b hb
  have := pcB_true.1 ((goodPc_at h).2.2 b hb)
  omega

/-- What stays beside a word in the making. -/
theorem keepP {w W0 W1 : World} {g T n k P : Nat} {ss : List ByteArray} {x y z : Int} (h : Below w.heap.size w W0 ∧ P < W0.heap.size ∧ WordRow W0 g T n k ss ∧ W0.cell? ⟨P, 0, none⟩ = some (.int .i64 x) ∧ W0.cell? ⟨P, 1, none⟩ = some (.int .i64 y) ∧ W0.cell? ⟨P, 2, none⟩ = some (.int .i64 z)) (hb : Below W0.heap.size W0 W1) :
    Below w.heap.size w W1 ∧ P < W1.heap.size ∧ WordRow W1 g T n k ss ∧ W1.cell? ⟨P, 0, none⟩ = some (.int .i64 x) ∧ W1.cell? ⟨P, 1, none⟩ = some (.int .i64 y) ∧ W1.cell? ⟨P, 2, none⟩ = some (.int .i64 z) :=
  ⟨h.1.trans (hb.mono h.1.size), by have := hb.size; omega, h.2.2.1.below hb h.2.2.1.lt, (hb.cell (cell_lt h.2.2.2.1)).trans h.2.2.2.1, (hb.cell (cell_lt h.2.2.2.2.1)).trans h.2.2.2.2.1, (hb.cell (cell_lt h.2.2.2.2.2)).trans h.2.2.2.2.2⟩
theorem size_setP (w : World) (p : Addr) (v : Value) : (w.setCell p v).heap.size = w.heap.size := by simp [World.setCell]
theorem cell_farP {w : World} {g k P j : Nat} (h : g < P) (v : Value) : (w.setCell ⟨g, k, none⟩ v).cell? ⟨P, j, none⟩ = w.cell? ⟨P, j, none⟩ := World.cell?_of_block (set_far w (by show P ≠ g; omega) v)
theorem word_less {w : World} {g T n k : Nat} {ss : List ByteArray} (h : WordRow w g T n (k + 1) ss) : WordRow w g T n k ss := by
  obtain ⟨cs, h1, h2, h3⟩ := h
  exact ⟨cs, h1, h2, fun j u hj hu => h3 j u (by omega) hu⟩
theorem two_seg (w : World) (x y : Int) : Seg (w.alloc (.cells #[.int .i64 x, .int .i64 y] 3)) w.heap.size (w.heap.size + 1) (some ⟨w.heap.size, 0, none⟩) [x, y] := by
  refine .inr ⟨w.heap.size, 0, rfl, Nat.le_refl _, by omega, fun j hj => ?_⟩
  have hj2 : j < 2 := hj
  rw [Nat.zero_add, cell_of (new_at w _ rfl)]
  match j, hj2 with
  | 0, _ => rfl
  | 1, _ => rfl

set_option maxRecDepth 100000 in
set_option maxHeartbeats 4000000 in
theorem implBoxesText_anyZ (A : Option Addr) (n c : Nat) (bs : List (Int × Int × Int)) (lo hi : Nat) (w : World) (hn : bs.length = n) (hlen : n ≤ 1048576) (hs : Seg w lo hi A (flat3 bs)) (hB : hi ≤ w.heap.size) (b : Bool) (hb : goodPc bs = b) (hT : Tab w) :
    Calls Tryd.prog 14 #[.slice A n c] w (RetTKZ b (someKZ b (joinB 44 (bs.map bxSZ))) w) := by
  have HN := Lib.hid hn
  have HQ := Lib.hid hb
  have HT := Lib.hid hT
  cases b
  · clear hn hb hT
    go_enter Tryd.func14, Tryd.ntmps14
    go_wp2_with fail
    refine (arePieces_any _ _ _ bs lo hi _ HN.out hlen hs hB _ HQ.out).mono ?_
    rintro e w1 ⟨rfl, hb1⟩
    go_wp2
    go_ret2
    exact ⟨rfl, hb1⟩
  · have hn12 : n ≤ 12 := by have := (goodPc_at hb).2.1; omega
    have HPL := Lib.hid (good_plainNZ hb)
    have hmk := fun W : World => run_make_row' 39 9 (.string ⟨#[]⟩) 16 Tryd.underlying39 str_info rfl .i64 .i64 n (by omega) (by omega) W
    clear hn hb hT
    go_enter Tryd.func14, Tryd.ntmps14
    go_wp2_with fail
    refine (arePieces_any _ _ _ bs lo hi _ HN.out hlen hs hB _ HQ.out).mono ?_
    rintro e w1 ⟨rfl, hb1⟩
    have hz1 := hb1.size
    have HW0 := Lib.hid (word_new w1 9 n (.string ⟨#[]⟩) (bs.map bxSZ))
    have HB0 := Lib.hid (hb1.alloc hz1 (.cells (madeCells #[.string ⟨#[]⟩] n) 9))
    go_wp2
    clear hmk
    go_loopw [5, 15] (fun _ i wr => ∃ k : Nat, k ≤ n ∧ i = .int .i64 k ∧ Below w.heap.size w wr ∧ w1.heap.size < wr.heap.size ∧ WordRow wr w1.heap.size 9 n k (bs.map bxSZ)) (fun _ i _ => n - (intOf i).toNat)
    case atStart => exact ⟨0, Nat.zero_le _, rfl, HB0.out, by simp, HW0.out⟩
    case round =>
      obtain ⟨k, hk, rfl, hb, hgz, hrow⟩ := hrel
      have HR := Lib.hid hrow
      clear hrow
      by_cases hlt : k < n
      · obtain ⟨bo, off, x, y, z, rfl, _, _, hu, hc0, hc1, hc2⟩ := (hs.below hb hB).tri (k := k) (by rw [HN.out]; exact hlt)
        have hz := hb.size
        have hub := HPL.out (x, y, z) (List.mem_of_getElem? hu)
        dsimp only at hub
        have HU := Lib.hid (show (bs.map bxSZ)[k]? = some (bxSZ (x, y, z)) by simp [hu])
        have hsz := numS_size hub.1.1 hub.1.2
        have hsz2 := numS_size hub.2.1.1 hub.2.1.2
        have hsz3 := numS_size hub.2.2.1 hub.2.2.2
        have HTX := Lib.hid (bxS_textZ (x, y, z))
        have htx : (textS 120 [x, y]).size ≤ 44 := textS_size 120 [x, y] (fun u hu => by simp only [List.mem_cons, List.not_mem_nil, or_false] at hu; rcases hu with rfl | rfl <;> omega)
        obtain ⟨wp, hwp⟩ : ∃ wp, wr.alloc (.cells #[.int .i64 x, .int .i64 y, .int .i64 z] 34) = wp := ⟨_, rfl⟩
        have hzp : wp.heap.size = wr.heap.size + 1 := by rw [← hwp]; simp
        have hbp : Below wr.heap.size wr wp := by rw [← hwp]; exact (Below.refl _ _).alloc (Nat.le_refl _) _
        have hpc : wp.heap[wr.heap.size]? = some (.cells #[.int .i64 x, .int .i64 y, .int .i64 z] 34 (0, 0)) := by rw [← hwp]; exact new_at _ _ rfl
        have HS0 := Lib.hid (show Below w.heap.size w wp ∧ wr.heap.size < wp.heap.size ∧ WordRow wp w1.heap.size 9 n k (bs.map bxSZ) ∧ wp.cell? ⟨wr.heap.size, 0, none⟩ = some (.int .i64 x) ∧ wp.cell? ⟨wr.heap.size, 1, none⟩ = some (.int .i64 y) ∧ wp.cell? ⟨wr.heap.size, 2, none⟩ = some (.int .i64 z) from ⟨hb.trans (hbp.mono hz), by omega, HR.out.below hbp hgz, cell_of hpc 0, cell_of hpc 1, cell_of hpc 2⟩)
        have HWP := Lib.hid hwp
        obtain ⟨tx, htx0⟩ : ∃ tx, textS 120 [x, y] = tx := ⟨_, rfl⟩
        have HTX0 := Lib.hid htx0
        rw [htx0] at htx
        have hd : (⟨#[61]⟩ : ByteArray).size = 1 := rfl
        have ha1 := add_ok tx ⟨#[61]⟩ (by omega)
        have ha2 : (tx.size + 1 > 9223372036854775807) = False := ha1
        have ha3 := add_ok (tx ++ ⟨#[61]⟩) (numS z) (by rw [ByteArray.size_append]; omega)
        have ha4 : (tx.size + 1 + (numS z).size > 9223372036854775807) = False := by simp; omega
        have hlt' : (k : Int) < (n : Int) := by omega
        clear hu hwp hbp hpc htx0 hsz hsz2 hsz3 hd htx
        go_wp2_with fail
        rw [HWP.out]
        refine wp_region_held_drew (S := (fun wq => Below w.heap.size w wq ∧ wr.heap.size < wq.heap.size ∧ WordRow wq w1.heap.size 9 n k (bs.map bxSZ) ∧ wq.cell? ⟨wr.heap.size, 0, none⟩ = some (.int .i64 x) ∧ wq.cell? ⟨wr.heap.size, 1, none⟩ = some (.int .i64 y) ∧ wq.cell? ⟨wr.heap.size, 2, none⟩ = some (.int .i64 z))) (by kernel_rfl) ⟨HS0.out.1.drew, HS0.out.2⟩ (fun hH0 => ?_)
        refine wpAnyH_take (i := 0) (v := ?_) (ops_at rfl) (by kernel_rfl) (by kernel_rfl) (by kernel_rfl) (fun _ _ _ h => h) (Or.inl ⟨by rfl, ?ya0⟩) (by assumption) ?na0
        case ya0 => (intro wS hSw; (try dsimp only at hSw); go_simp; try rfl)
        try simp only [Act.put, List.setIfInBounds_toArray, List.set_cons_zero, List.set_cons_succ]
        refine wpAnyH_take (i := 1) (v := ?_) (ops_at rfl) (by kernel_rfl) (by kernel_rfl) (by kernel_rfl) (fun _ _ _ h => h) (Or.inl ⟨by rfl, ?ya1⟩) (by assumption) ?na1
        case ya1 => (intro wS hSw; (try dsimp only at hSw); go_simp; try rfl)
        try simp only [Act.put, List.setIfInBounds_toArray, List.set_cons_zero, List.set_cons_succ]
        refine wpAnyH_take (i := 2) (v := ?_) (ops_at rfl) (by kernel_rfl) (by kernel_rfl) (by kernel_rfl) (fun _ _ _ h => h) (Or.inl ⟨by rfl, ?ya2⟩) (by assumption) ?na2
        case ya2 => (intro wS hSw; (try dsimp only at hSw); go_simp; try rfl)
        try simp only [Act.put, List.setIfInBounds_toArray, List.set_cons_zero, List.set_cons_succ]
        refine wpAnyH_take (i := 3) (v := ?_) (ops_at rfl) (by kernel_rfl) (by kernel_rfl) (by kernel_rfl) (fun _ _ _ h => h) (Or.inl ⟨by rfl, ?ya3⟩) (by assumption) ?na3
        case ya3 => (intro wS hSw; (try dsimp only at hSw); go_simp; try rfl)
        try simp only [Act.put, List.setIfInBounds_toArray, List.set_cons_zero, List.set_cons_succ]
        refine wpAnyH_take (i := 4) (v := ?_) (ops_at rfl) (by kernel_rfl) (by kernel_rfl) (by kernel_rfl) (fun _ _ _ h => h) (Or.inl ⟨by rfl, ?ya4⟩) (by assumption) ?na4
        case ya4 => (intro wS hSw; (try dsimp only at hSw); go_simp; try rfl)
        try simp only [Act.put, List.setIfInBounds_toArray, List.set_cons_zero, List.set_cons_succ]
        refine wpAnyH_take (i := 5) (v := ?_) (ops_at rfl) (by kernel_rfl) (by kernel_rfl) (by kernel_rfl) (fun _ _ _ h => h) (Or.inl ⟨by rfl, ?ya5⟩) (by assumption) ?na5
        case ya5 => (intro wS hSw; (try dsimp only at hSw); go_simp; try rfl)
        try simp only [Act.put, List.setIfInBounds_toArray, List.set_cons_zero, List.set_cons_succ]
        refine wpAnyH_take (i := 9) (v := ?_) (ops_at rfl) (by kernel_rfl) (by kernel_rfl) (by kernel_rfl) (fun _ _ _ h => h) (Or.inl ⟨by rfl, ?ya9⟩) (by assumption) ?na9
        case ya9 => (intro wS hSw; (try dsimp only at hSw); go_simp; try rfl)
        try simp only [Act.put, List.setIfInBounds_toArray, List.set_cons_zero, List.set_cons_succ]
        refine wpAnyH_take (i := 10) (v := ?_) (ops_at rfl) (by kernel_rfl) (by kernel_rfl) (by kernel_rfl) (fun _ _ _ h => h) (Or.inl ⟨by rfl, ?ya10⟩) (by assumption) ?na10
        case ya10 => (intro wS hSw; (try dsimp only at hSw); go_simp; try rfl)
        try simp only [Act.put, List.setIfInBounds_toArray, List.set_cons_zero, List.set_cons_succ]
        refine wpAnyH_ready (rs := [6]) (by kernel_rfl) (by simp) ?_
        refine AllReadyH.cons (ops_at rfl) (fun K hK => ?_) AllReadyH.nil
        go_simp
        refine hK.out _ _ (keepP HS0.out (((Below.refl wp.heap.size wp).alloc (Nat.le_refl _) (.cells #[.int .i64 x, .int .i64 y] 3)).drew)) (fun hHa6 => ?_)
        clear hK K
        obtain ⟨W6, hW6⟩ : ∃ W6, (wp.alloc (.cells #[.int .i64 x, .int .i64 y] 3)).drew = W6 := ⟨_, rfl⟩
        have HSG := Lib.hid (show Seg W6 (wr.heap.size + 1) (wr.heap.size + 1 + 1) (some ⟨wr.heap.size + 1, 0, none⟩) [x, y] by rw [← hW6, ← hzp]; exact two_seg wp x y)
        have hz6 : wr.heap.size + 1 + 1 ≤ W6.heap.size := by rw [← hW6, ← hzp]; show _ ≤ (wp.alloc _).heap.size; simp
        rw [hW6] at hHa6 ⊢
        clear hW6
        refine wpAnyH_ready (rs := [7]) (by kernel_rfl) (by simp) ?_
        refine AllReadyH.cons (ops_at rfl) (fun K hK => ?_) AllReadyH.nil
        go_simp
        refine (joinNumbers_any 120 _ 2 _ [x, y] (wr.heap.size + 1) (wr.heap.size + 1 + 1) W6 rfl (by omega) (fun u hu => ?_) HSG.out hz6 (HT.out.below hHa6.1 (Nat.le_refl _))).mono ?_
        · simp only [List.mem_cons, List.not_mem_nil, or_false] at hu; rcases hu with rfl | rfl <;> omega
        rw [HTX0.out]
        rintro e wa7 ⟨rfl, hba7⟩
        dsimp only
        refine hK.out _ _ (keepP hHa6 hba7) (fun hHa7 => ?_)
        clear hK K
        refine wpAnyH_take (i := 8) (v := ?_) (ops_at rfl) (by kernel_rfl) (by kernel_rfl) (by kernel_rfl) (fun _ _ _ h => h) (Or.inl ⟨by rfl, ?yb8⟩) (by assumption) ?nb8
        case yb8 => (intro wS hSw; (try dsimp only at hSw); go_simp; try rfl)
        try simp only [Act.put, List.setIfInBounds_toArray, List.set_cons_zero, List.set_cons_succ]
        refine wpAnyH_ready (rs := [11]) (by kernel_rfl) (by simp) ?_
        refine AllReadyH.cons (ops_at rfl) (fun K hK => ?_) AllReadyH.nil
        go_simp
        refine (itoa_any z _ (by omega) (by omega) (HT.out.below hHa7.1 (Nat.le_refl _))).mono ?_
        rintro e wa11 ⟨rfl, hba11⟩
        dsimp only
        refine hK.out _ _ (keepP hHa7 hba11) (fun hHb => ?_)
        clear hK K
        refine wpAnyH_take (i := 12) (v := ?_) (ops_at rfl) (by kernel_rfl) (by kernel_rfl) (by kernel_rfl) (fun _ _ _ h => h) (Or.inl ⟨by rfl, ?yc12⟩) (by assumption) ?nc12
        case yc12 => (intro wS hSw; (try dsimp only at hSw); go_simp; try rfl)
        try simp only [Act.put, List.setIfInBounds_toArray, List.set_cons_zero, List.set_cons_succ]
        refine wpAnyH_take (i := 13) (v := ?_) (ops_at rfl) (by kernel_rfl) (by kernel_rfl) (by kernel_rfl) (fun _ _ _ h => h) (Or.inl ⟨by rfl, ?yc13⟩) (by assumption) ?nc13
        case yc13 => (intro wS hSw; (try dsimp only at hSw); go_simp; try rfl)
        try simp only [Act.put, List.setIfInBounds_toArray, List.set_cons_zero, List.set_cons_succ]
        obtain ⟨v, hv⟩ := hHb.2.2.1.cell hlt
        have hfz := hHb.2.2.1.frozen k
        have HSET := Lib.hid (hHb.2.2.1.set (u := tx ++ ⟨#[61]⟩ ++ numS z) (by rw [HU.out, ← HTX.out, HTX0.out]) hlt)
        have HFIN := Lib.hid (hHb.1.setCell (p := ⟨w1.heap.size, k, none⟩) (by show w.heap.size ≤ w1.heap.size; omega) (.string (tx ++ ⟨#[61]⟩ ++ numS z)))
        refine wpAnyH_ready (rs := [14]) (by kernel_rfl) (by simp) ?_
        refine AllReadyH.cons (ops_at rfl) (fun K hK => ?_) AllReadyH.nil
        go_simp
        refine hK.out _ _ ⟨HFIN.out, by rw [size_setP]; exact hHb.2.1, word_less HSET.out, (cell_farP hgz _).trans hHb.2.2.2.1, (cell_farP hgz _).trans hHb.2.2.2.2.1, (cell_farP hgz _).trans hHb.2.2.2.2.2⟩ (fun hHc => ?_)
        clear hK K
        refine wpAnyH_done (by kernel_rfl) ?_ _
        go_wp2
        go_roundw
        case rel => exact ⟨k + 1, by omega, by go_num, HFIN.out, by rw [size_setP]; omega, HSET.out⟩
        case measure => simp [intOf]; omega
      · obtain rfl : k = n := by omega
        have hz := hb.size
        go_wp2_with fail
        refine (joinW_any 44 _ _ _ 65 (bs.map bxSZ) _ (by rw [List.length_map]; exact HN.out) (by omega) (by omega) (wordsN_sizeZ HPL.out) HR.out).mono ?_
        rintro e w2 ⟨rfl, hb2⟩
        go_wp2
        go_ret2
        exact ⟨rfl, hb.trans (hb2.mono hz)⟩
end Go.Proofs.YtjpejhpilfjheacDoor

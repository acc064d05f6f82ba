/-
  The checking program's text of pieces.
  Conditions: at most 1048576 pieces whose numbers lie from 0 to 1000000.
-/
import Derived.Test.YtjpejhpilfjheabDoorTxRows
import Derived.Test.YtjpejhpilfjheabDoorPcGood
import Derived.Deep.RegionHeld3
namespace Go.Proofs.YtjpejhpilfjheabDoor
set_option linter.unusedVariables false
open Go.RowKit

/-- One box's word. -/
def bxSZ (b : Int × Int × Int) : ByteArray := numS b.1 ++ ⟨#[120]⟩ ++ numS b.2.1 ++ ⟨#[61]⟩ ++ numS b.2.2
theorem bxS_textZ (b : Int × Int × Int) : textS 120 [b.1, b.2.1] ++ ⟨#[61]⟩ ++ numS b.2.2 = bxSZ b := by simp [textS, bxSZ, append_assocB]

/-- The numbers of pieces that a text is made of. -/
def plainNZ (bs : List (Int × Int × Int)) : Prop := ∀ b ∈ bs, (0 ≤ b.1 ∧ b.1 ≤ 1000000) ∧ (0 ≤ b.2.1 ∧ b.2.1 ≤ 1000000) ∧ 0 ≤ b.2.2 ∧ b.2.2 ≤ 1000000

theorem bxS_sizeZ {b : Int × Int × Int} (h : (0 ≤ b.1 ∧ b.1 ≤ 1000000) ∧ (0 ≤ b.2.1 ∧ b.2.1 ≤ 1000000) ∧ 0 ≤ b.2.2 ∧ b.2.2 ≤ 1000000) : (bxSZ b).size ≤ 65 := by
  have h1 := numS_size h.1.1 h.1.2
  have h2 := numS_size h.2.1.1 h.2.1.2
  have h3 := numS_size h.2.2.1 h.2.2.2
  have h4 : (⟨#[120]⟩ : ByteArray).size = 1 := rfl
  have h5 : (⟨#[61]⟩ : ByteArray).size = 1 := rfl
  rw [bxSZ, ByteArray.size_append, ByteArray.size_append, ByteArray.size_append, ByteArray.size_append]
  omega

theorem wordsN_sizeZ {bs : List (Int × Int × Int)} (h : plainNZ bs) : ∀ s ∈ bs.map bxSZ, s.size ≤ 65 := by
  intro s hs
  obtain ⟨b, hb, rfl⟩ := List.mem_map.1 hs
  exact bxS_sizeZ (h b hb)

theorem partN_sizeZ {bs : List (Int × Int × Int)} (h : plainNZ bs) (hl : bs.length ≤ 1048576) (k : Nat) : (joinB 44 ((bs.map bxSZ).take k)).size ≤ 70000000 := by
  have h1 := joinB_size 44 ((bs.map bxSZ).take k) 65 (fun s hs => wordsN_sizeZ h s (List.mem_of_mem_take hs))
  have h2 : ((bs.map bxSZ).take k).length ≤ bs.length := by rw [List.length_take, List.length_map]; omega
  have h3 : (65 + 1) * ((bs.map bxSZ).take k).length ≤ 66 * 1048576 := Nat.mul_le_mul (by omega) (by omega)
  omega

theorem keep3Z {W0 W1 W2 : World} {a b c : Addr} {x y z : Value} (h : Below W0.heap.size W0 W1 ∧ W1.cell? a = some x ∧ W1.cell? b = some y ∧ W1.cell? c = some z) (hb : Below W1.heap.size W1 W2) :
    Below W0.heap.size W0 W2 ∧ W2.cell? a = some x ∧ W2.cell? b = some y ∧ W2.cell? c = some z :=
  ⟨h.1.trans (hb.mono h.1.size), (hb.cell (cell_lt h.2.1)).trans h.2.1, (hb.cell (cell_lt h.2.2.1)).trans h.2.2.1, (hb.cell (cell_lt h.2.2.2)).trans h.2.2.2⟩

set_option maxRecDepth 100000 in
set_option maxHeartbeats 4000000 in
theorem neText_anyZ (A : Option Addr) (n c : Nat) (bs : List (Int × Int × Int)) (lo hi : Nat) (w : World) (hn : bs.length = n) (hlen : n ≤ 1048576) (hx : plainNZ bs) (hs : Seg w lo hi A (flat3 bs)) (hB : hi ≤ w.heap.size) :
    Calls Tryd.prog 10 #[.slice A n c] w fun e w' => e = .returned (.string (joinB 44 (bs.map bxSZ))) ∧ Below w.heap.size w w' := by
  have HN := Lib.hid hn
  have HX := Lib.hid hx
  have HL := Lib.hid (partN_sizeZ hx (by omega))
  clear hn hx
  go_enter Tryd.func10, Tryd.ntmps10
  go_wp2
  go_loopw [3, 8] (fun s i wr => ∃ k : Nat, k ≤ n ∧ i = .int .i64 k ∧ s = .string (joinB 44 ((bs.map bxSZ).take k)) ∧ Below w.heap.size w wr) (fun _ i _ => n - (intOf i).toNat)
  case atStart => exact ⟨0, Nat.zero_le _, rfl, rfl, Below.refl _ _⟩
  case round =>
    obtain ⟨k, hk, rfl, rfl, hb⟩ := hrel
    by_cases hlt : k < n
    · obtain ⟨b, off, x, y, z, rfl, _, _, hu, hc0, hc1, hc2⟩ := (hs.below hb hB).tri (k := k) (by rw [HN.out]; exact hlt)
      have hub := HX.out (x, y, z) (List.mem_of_getElem? hu)
      dsimp only at hub
      have hz := hb.size
      have hw : (bs.map bxSZ)[k]? = some (bxSZ (x, y, z)) := by simp [hu]
      have hle := HL.out k
      have hsz := numS_size hub.1.1 hub.1.2
      have hsz2 := numS_size hub.2.1.1 hub.2.1.2
      have hsz3 := numS_size hub.2.2.1 hub.2.2.2
      have hbr := hb.alloc hz (.cells #[.int .i64 x, .int .i64 y, .int .i64 z] 33)
      have hS0 : Below (wr.alloc (.cells #[.int .i64 x, .int .i64 y, .int .i64 z] 33)).heap.size (wr.alloc (.cells #[.int .i64 x, .int .i64 y, .int .i64 z] 33)) (wr.alloc (.cells #[.int .i64 x, .int .i64 y, .int .i64 z] 33)).drew ∧ (wr.alloc (.cells #[.int .i64 x, .int .i64 y, .int .i64 z] 33)).drew.cell? ⟨wr.heap.size, 0, none⟩ = some (.int .i64 x) ∧ (wr.alloc (.cells #[.int .i64 x, .int .i64 y, .int .i64 z] 33)).drew.cell? ⟨wr.heap.size, 1, none⟩ = some (.int .i64 y) ∧ (wr.alloc (.cells #[.int .i64 x, .int .i64 y, .int .i64 z] 33)).drew.cell? ⟨wr.heap.size, 2, none⟩ = some (.int .i64 z) := ⟨(Below.refl _ _).drew, cell_of (new_at wr _ rfl) 0, cell_of (new_at wr _ rfl) 1, cell_of (new_at wr _ rfl) 2⟩
      have hd : (⟨#[120]⟩ : ByteArray).size = 1 := rfl
      have hd3 : (⟨#[61]⟩ : ByteArray).size = 1 := rfl
      have hd2 : (⟨#[44]⟩ : ByteArray).size = 1 := rfl
      have hsb : (numS x ++ ⟨#[120]⟩ ++ numS y ++ ⟨#[61]⟩ ++ numS z).size ≤ 65 := bxS_sizeZ (b := (x, y, z)) hub
      have ha1 := add_ok (numS x) ⟨#[120]⟩ (by omega)
      have ha2 : ((numS x).size + 1 > 9223372036854775807) = False := ha1
      have ha3 := add_ok (numS x ++ ⟨#[120]⟩) (numS y) (by rw [ByteArray.size_append]; omega)
      have ha4 : ((numS x).size + 1 + (numS y).size > 9223372036854775807) = False := by simp; omega
      have ha5 := add_ok (numS x ++ ⟨#[120]⟩ ++ numS y) ⟨#[61]⟩ (by rw [ByteArray.size_append, ByteArray.size_append]; omega)
      have ha6 : ((numS x).size + 1 + (numS y).size + 1 > 9223372036854775807) = False := by simp; omega
      have ha7 := add_ok (numS x ++ ⟨#[120]⟩ ++ numS y ++ ⟨#[61]⟩) (numS z) (by rw [ByteArray.size_append, ByteArray.size_append, ByteArray.size_append]; omega)
      have ha8 : ((numS x).size + 1 + (numS y).size + 1 + (numS z).size > 9223372036854775807) = False := by simp; omega
      by_cases h0 : k = 0
      · subst h0
        have HS := Lib.hid (joinB_first 44 hw)
        generalize hT : joinB 44 ((bs.map bxSZ).take 0) = T at *
        rw [Nat.zero_mul] at hc0 hc1 hc2
        rw [Nat.add_zero] at hc0
        have hb1 := add_ok T (numS x ++ ⟨#[120]⟩ ++ numS y ++ ⟨#[61]⟩ ++ numS z) (by omega)
        have hb2 : (T.size + ((numS x).size + 1 + (numS y).size + 1 + (numS z).size) > 9223372036854775807) = False := by simp; omega
        have HT := Lib.hid hT
        clear hle hsz hsz2 hsz3 hd hd2 hd3 hsb hu hw hT
        go_wp2_with fail
        refine wp_region_held_drew (S := (fun wq => Below (wr.alloc (.cells #[.int .i64 x, .int .i64 y, .int .i64 z] 33)).heap.size (wr.alloc (.cells #[.int .i64 x, .int .i64 y, .int .i64 z] 33)) wq ∧ wq.cell? ⟨wr.heap.size, 0, none⟩ = some (.int .i64 x) ∧ wq.cell? ⟨wr.heap.size, 1, none⟩ = some (.int .i64 y) ∧ wq.cell? ⟨wr.heap.size, 2, none⟩ = some (.int .i64 z))) (by kernel_rfl) hS0 (fun hH0 => ?_)
        refine wpAnyH_take (i := 0) (v := ?_) (ops_at rfl) (by kernel_rfl) (by kernel_rfl) (by kernel_rfl) (fun _ _ _ h => h) (Or.inl ⟨by rfl, ?ya0⟩) (by assumption) ?na0
        case ya0 => (intro wS hSw; (try dsimp only at hSw); go_simp; try rfl)
        try simp only [Act.put, List.setIfInBounds_toArray, List.set_cons_zero, List.set_cons_succ]
        refine wpAnyH_take (i := 1) (v := ?_) (ops_at rfl) (by kernel_rfl) (by kernel_rfl) (by kernel_rfl) (fun _ _ _ h => h) (Or.inl ⟨by rfl, ?ya1⟩) (by assumption) ?na1
        case ya1 => (intro wS hSw; (try dsimp only at hSw); go_simp; try rfl)
        try simp only [Act.put, List.setIfInBounds_toArray, List.set_cons_zero, List.set_cons_succ]
        refine wpAnyH_take (i := 2) (v := ?_) (ops_at rfl) (by kernel_rfl) (by kernel_rfl) (by kernel_rfl) (fun _ _ _ h => h) (Or.inl ⟨by rfl, ?ya2⟩) (by assumption) ?na2
        case ya2 => (intro wS hSw; (try dsimp only at hSw); go_simp; try rfl)
        try simp only [Act.put, List.setIfInBounds_toArray, List.set_cons_zero, List.set_cons_succ]
        refine wpAnyH_take (i := 5) (v := ?_) (ops_at rfl) (by kernel_rfl) (by kernel_rfl) (by kernel_rfl) (fun _ _ _ h => h) (Or.inl ⟨by rfl, ?ya5⟩) (by assumption) ?na5
        case ya5 => (intro wS hSw; (try dsimp only at hSw); go_simp; try rfl)
        try simp only [Act.put, List.setIfInBounds_toArray, List.set_cons_zero, List.set_cons_succ]
        refine wpAnyH_take (i := 6) (v := ?_) (ops_at rfl) (by kernel_rfl) (by kernel_rfl) (by kernel_rfl) (fun _ _ _ h => h) (Or.inl ⟨by rfl, ?ya6⟩) (by assumption) ?na6
        case ya6 => (intro wS hSw; (try dsimp only at hSw); go_simp; try rfl)
        try simp only [Act.put, List.setIfInBounds_toArray, List.set_cons_zero, List.set_cons_succ]
        refine wpAnyH_take (i := 10) (v := ?_) (ops_at rfl) (by kernel_rfl) (by kernel_rfl) (by kernel_rfl) (fun _ _ _ h => h) (Or.inl ⟨by rfl, ?ya10⟩) (by assumption) ?na10
        case ya10 => (intro wS hSw; (try dsimp only at hSw); go_simp; try rfl)
        try simp only [Act.put, List.setIfInBounds_toArray, List.set_cons_zero, List.set_cons_succ]
        refine wpAnyH_take (i := 11) (v := ?_) (ops_at rfl) (by kernel_rfl) (by kernel_rfl) (by kernel_rfl) (fun _ _ _ h => h) (Or.inl ⟨by rfl, ?ya11⟩) (by assumption) ?na11
        case ya11 => (intro wS hSw; (try dsimp only at hSw); go_simp; try rfl)
        try simp only [Act.put, List.setIfInBounds_toArray, List.set_cons_zero, List.set_cons_succ]
        refine wpAnyH_ready (rs := [3]) (by kernel_rfl) (by simp) ?_
        refine AllReadyH.cons (ops_at rfl) (fun K hK => ?_) AllReadyH.nil
        go_simp
        refine (l1Num_any _ x _ hub.1.1 hub.1.2 rfl).mono ?_
        rintro e wa3 ⟨rfl, hba3⟩
        dsimp only
        refine hK.out _ _ (keep3Z hH0 hba3) (fun hHa3 => ?_)
        clear hK K
        refine wpAnyH_take (i := 4) (v := ?_) (ops_at rfl) (by kernel_rfl) (by kernel_rfl) (by kernel_rfl) (fun _ _ _ h => h) (Or.inl ⟨by rfl, ?ya4⟩) (by assumption) ?na4
        case ya4 => (intro wS hSw; (try dsimp only at hSw); go_simp; try rfl)
        try simp only [Act.put, List.setIfInBounds_toArray, List.set_cons_zero, List.set_cons_succ]
        refine wpAnyH_ready (rs := [7]) (by kernel_rfl) (by simp) ?_
        refine AllReadyH.cons (ops_at rfl) (fun K hK => ?_) AllReadyH.nil
        go_simp
        refine (l1Num_any _ y _ hub.2.1.1 hub.2.1.2 rfl).mono ?_
        rintro e wa7 ⟨rfl, hba7⟩
        dsimp only
        refine hK.out _ _ (keep3Z hHa3 hba7) (fun hHa7 => ?_)
        clear hK K
        refine wpAnyH_take (i := 8) (v := ?_) (ops_at rfl) (by kernel_rfl) (by kernel_rfl) (by kernel_rfl) (fun _ _ _ h => h) (Or.inl ⟨by rfl, ?ya8⟩) (by assumption) ?na8
        case ya8 => (intro wS hSw; (try dsimp only at hSw); go_simp; try rfl)
        try simp only [Act.put, List.setIfInBounds_toArray, List.set_cons_zero, List.set_cons_succ]
        refine wpAnyH_take (i := 9) (v := ?_) (ops_at rfl) (by kernel_rfl) (by kernel_rfl) (by kernel_rfl) (fun _ _ _ h => h) (Or.inl ⟨by rfl, ?ya9⟩) (by assumption) ?na9
        case ya9 => (intro wS hSw; (try dsimp only at hSw); go_simp; try rfl)
        try simp only [Act.put, List.setIfInBounds_toArray, List.set_cons_zero, List.set_cons_succ]
        refine wpAnyH_ready (rs := [12]) (by kernel_rfl) (by simp) ?_
        refine AllReadyH.cons (ops_at rfl) (fun K hK => ?_) AllReadyH.nil
        go_simp
        refine (l1Num_any _ z _ hub.2.2.1 hub.2.2.2 rfl).mono ?_
        rintro e wa12 ⟨rfl, hba12⟩
        dsimp only
        refine hK.out _ _ (keep3Z hHa7 hba12) (fun hHa12 => ?_)
        clear hK K
        refine wpAnyH_take (i := 13) (v := ?_) (ops_at rfl) (by kernel_rfl) (by kernel_rfl) (by kernel_rfl) (fun _ _ _ h => h) (Or.inl ⟨by rfl, ?ya13⟩) (by assumption) ?na13
        case ya13 => (intro wS hSw; (try dsimp only at hSw); go_simp; try rfl)
        try simp only [Act.put, List.setIfInBounds_toArray, List.set_cons_zero, List.set_cons_succ]
        refine wpAnyH_take (i := 14) (v := ?_) (ops_at rfl) (by kernel_rfl) (by kernel_rfl) (by kernel_rfl) (fun _ _ _ h => h) (Or.inl ⟨by rfl, ?ya14⟩) (by assumption) ?na14
        case ya14 => (intro wS hSw; (try dsimp only at hSw); go_simp; try rfl)
        try simp only [Act.put, List.setIfInBounds_toArray, List.set_cons_zero, List.set_cons_succ]
        refine wpAnyH_take (i := 15) (v := ?_) (ops_at rfl) (by kernel_rfl) (by kernel_rfl) (by kernel_rfl) (fun _ _ _ h => h) (Or.inl ⟨by rfl, ?ya15⟩) (by assumption) ?na15
        case ya15 => (intro wS hSw; (try dsimp only at hSw); go_simp; try rfl)
        try simp only [Act.put, List.setIfInBounds_toArray, List.set_cons_zero, List.set_cons_succ]
        refine wpAnyH_done (by kernel_rfl) ?_ _
        go_wp2
        go_roundw
        case rel => exact ⟨1, by omega, by go_num, by rw [HS.out]; rfl, hbr.trans (hHa12.1.mono (by simp; omega))⟩
        case measure => simp [intOf]; omega
      · have HS := Lib.hid (joinB_next 44 h0 hw)
        have h0' : decide ((k : Int) > 0) = true := by simp; omega
        generalize hT : joinB 44 ((bs.map bxSZ).take k) = T at *
        have hb0 := add_ok T ⟨#[44]⟩ (by omega)
        have hb00 : (T.size + 1 > 9223372036854775807) = False := hb0
        have hb1 := add_ok (T ++ ⟨#[44]⟩) (numS x ++ ⟨#[120]⟩ ++ numS y ++ ⟨#[61]⟩ ++ numS z) (by rw [ByteArray.size_append]; omega)
        have hb2 : (T.size + 1 + ((numS x).size + 1 + (numS y).size + 1 + (numS z).size) > 9223372036854775807) = False := by simp; omega
        have HT := Lib.hid hT
        clear hle hsz hsz2 hsz3 hd hd2 hd3 hsb hu hw hT
        go_wp2_with fail
        refine wp_region_held_drew (S := (fun wq => Below (wr.alloc (.cells #[.int .i64 x, .int .i64 y, .int .i64 z] 33)).heap.size (wr.alloc (.cells #[.int .i64 x, .int .i64 y, .int .i64 z] 33)) wq ∧ wq.cell? ⟨wr.heap.size, 0, none⟩ = some (.int .i64 x) ∧ wq.cell? ⟨wr.heap.size, 1, none⟩ = some (.int .i64 y) ∧ wq.cell? ⟨wr.heap.size, 2, none⟩ = some (.int .i64 z))) (by kernel_rfl) hS0 (fun hH0 => ?_)
        refine wpAnyH_take (i := 0) (v := ?_) (ops_at rfl) (by kernel_rfl) (by kernel_rfl) (by kernel_rfl) (fun _ _ _ h => h) (Or.inl ⟨by rfl, ?yb0⟩) (by assumption) ?nb0
        case yb0 => (intro wS hSw; (try dsimp only at hSw); go_simp; try rfl)
        try simp only [Act.put, List.setIfInBounds_toArray, List.set_cons_zero, List.set_cons_succ]
        refine wpAnyH_take (i := 1) (v := ?_) (ops_at rfl) (by kernel_rfl) (by kernel_rfl) (by kernel_rfl) (fun _ _ _ h => h) (Or.inl ⟨by rfl, ?yb1⟩) (by assumption) ?nb1
        case yb1 => (intro wS hSw; (try dsimp only at hSw); go_simp; try rfl)
        try simp only [Act.put, List.setIfInBounds_toArray, List.set_cons_zero, List.set_cons_succ]
        refine wpAnyH_take (i := 2) (v := ?_) (ops_at rfl) (by kernel_rfl) (by kernel_rfl) (by kernel_rfl) (fun _ _ _ h => h) (Or.inl ⟨by rfl, ?yb2⟩) (by assumption) ?nb2
        case yb2 => (intro wS hSw; (try dsimp only at hSw); go_simp; try rfl)
        try simp only [Act.put, List.setIfInBounds_toArray, List.set_cons_zero, List.set_cons_succ]
        refine wpAnyH_take (i := 5) (v := ?_) (ops_at rfl) (by kernel_rfl) (by kernel_rfl) (by kernel_rfl) (fun _ _ _ h => h) (Or.inl ⟨by rfl, ?yb5⟩) (by assumption) ?nb5
        case yb5 => (intro wS hSw; (try dsimp only at hSw); go_simp; try rfl)
        try simp only [Act.put, List.setIfInBounds_toArray, List.set_cons_zero, List.set_cons_succ]
        refine wpAnyH_take (i := 6) (v := ?_) (ops_at rfl) (by kernel_rfl) (by kernel_rfl) (by kernel_rfl) (fun _ _ _ h => h) (Or.inl ⟨by rfl, ?yb6⟩) (by assumption) ?nb6
        case yb6 => (intro wS hSw; (try dsimp only at hSw); go_simp; try rfl)
        try simp only [Act.put, List.setIfInBounds_toArray, List.set_cons_zero, List.set_cons_succ]
        refine wpAnyH_take (i := 10) (v := ?_) (ops_at rfl) (by kernel_rfl) (by kernel_rfl) (by kernel_rfl) (fun _ _ _ h => h) (Or.inl ⟨by rfl, ?yb10⟩) (by assumption) ?nb10
        case yb10 => (intro wS hSw; (try dsimp only at hSw); go_simp; try rfl)
        try simp only [Act.put, List.setIfInBounds_toArray, List.set_cons_zero, List.set_cons_succ]
        refine wpAnyH_take (i := 11) (v := ?_) (ops_at rfl) (by kernel_rfl) (by kernel_rfl) (by kernel_rfl) (fun _ _ _ h => h) (Or.inl ⟨by rfl, ?yb11⟩) (by assumption) ?nb11
        case yb11 => (intro wS hSw; (try dsimp only at hSw); go_simp; try rfl)
        try simp only [Act.put, List.setIfInBounds_toArray, List.set_cons_zero, List.set_cons_succ]
        refine wpAnyH_ready (rs := [3]) (by kernel_rfl) (by simp) ?_
        refine AllReadyH.cons (ops_at rfl) (fun K hK => ?_) AllReadyH.nil
        go_simp
        refine (l1Num_any _ x _ hub.1.1 hub.1.2 rfl).mono ?_
        rintro e wb3 ⟨rfl, hbb3⟩
        dsimp only
        refine hK.out _ _ (keep3Z hH0 hbb3) (fun hHb3 => ?_)
        clear hK K
        refine wpAnyH_take (i := 4) (v := ?_) (ops_at rfl) (by kernel_rfl) (by kernel_rfl) (by kernel_rfl) (fun _ _ _ h => h) (Or.inl ⟨by rfl, ?yb4⟩) (by assumption) ?nb4
        case yb4 => (intro wS hSw; (try dsimp only at hSw); go_simp; try rfl)
        try simp only [Act.put, List.setIfInBounds_toArray, List.set_cons_zero, List.set_cons_succ]
        refine wpAnyH_ready (rs := [7]) (by kernel_rfl) (by simp) ?_
        refine AllReadyH.cons (ops_at rfl) (fun K hK => ?_) AllReadyH.nil
        go_simp
        refine (l1Num_any _ y _ hub.2.1.1 hub.2.1.2 rfl).mono ?_
        rintro e wb7 ⟨rfl, hbb7⟩
        dsimp only
        refine hK.out _ _ (keep3Z hHb3 hbb7) (fun hHb7 => ?_)
        clear hK K
        refine wpAnyH_take (i := 8) (v := ?_) (ops_at rfl) (by kernel_rfl) (by kernel_rfl) (by kernel_rfl) (fun _ _ _ h => h) (Or.inl ⟨by rfl, ?yb8⟩) (by assumption) ?nb8
        case yb8 => (intro wS hSw; (try dsimp only at hSw); go_simp; try rfl)
        try simp only [Act.put, List.setIfInBounds_toArray, List.set_cons_zero, List.set_cons_succ]
        refine wpAnyH_take (i := 9) (v := ?_) (ops_at rfl) (by kernel_rfl) (by kernel_rfl) (by kernel_rfl) (fun _ _ _ h => h) (Or.inl ⟨by rfl, ?yb9⟩) (by assumption) ?nb9
        case yb9 => (intro wS hSw; (try dsimp only at hSw); go_simp; try rfl)
        try simp only [Act.put, List.setIfInBounds_toArray, List.set_cons_zero, List.set_cons_succ]
        refine wpAnyH_ready (rs := [12]) (by kernel_rfl) (by simp) ?_
        refine AllReadyH.cons (ops_at rfl) (fun K hK => ?_) AllReadyH.nil
        go_simp
        refine (l1Num_any _ z _ hub.2.2.1 hub.2.2.2 rfl).mono ?_
        rintro e wb12 ⟨rfl, hbb12⟩
        dsimp only
        refine hK.out _ _ (keep3Z hHb7 hbb12) (fun hHb12 => ?_)
        clear hK K
        refine wpAnyH_take (i := 13) (v := ?_) (ops_at rfl) (by kernel_rfl) (by kernel_rfl) (by kernel_rfl) (fun _ _ _ h => h) (Or.inl ⟨by rfl, ?yb13⟩) (by assumption) ?nb13
        case yb13 => (intro wS hSw; (try dsimp only at hSw); go_simp; try rfl)
        try simp only [Act.put, List.setIfInBounds_toArray, List.set_cons_zero, List.set_cons_succ]
        refine wpAnyH_take (i := 14) (v := ?_) (ops_at rfl) (by kernel_rfl) (by kernel_rfl) (by kernel_rfl) (fun _ _ _ h => h) (Or.inl ⟨by rfl, ?yb14⟩) (by assumption) ?nb14
        case yb14 => (intro wS hSw; (try dsimp only at hSw); go_simp; try rfl)
        try simp only [Act.put, List.setIfInBounds_toArray, List.set_cons_zero, List.set_cons_succ]
        refine wpAnyH_take (i := 15) (v := ?_) (ops_at rfl) (by kernel_rfl) (by kernel_rfl) (by kernel_rfl) (fun _ _ _ h => h) (Or.inl ⟨by rfl, ?yb15⟩) (by assumption) ?nb15
        case yb15 => (intro wS hSw; (try dsimp only at hSw); go_simp; try rfl)
        try simp only [Act.put, List.setIfInBounds_toArray, List.set_cons_zero, List.set_cons_succ]
        refine wpAnyH_done (by kernel_rfl) ?_ _
        go_wp2
        go_roundw
        case rel => exact ⟨k + 1, by omega, by go_num, by rw [HS.out]; rfl, hbr.trans (hHb12.1.mono (by simp; omega))⟩
        case measure => simp [intOf]; omega
    · obtain rfl : k = n := by omega
      go_wp2
      go_ret
      exact ⟨by rw [← HN.out, ← List.length_map (f := bxSZ), List.take_length]; rfl, hb⟩
end Go.Proofs.YtjpejhpilfjheabDoor

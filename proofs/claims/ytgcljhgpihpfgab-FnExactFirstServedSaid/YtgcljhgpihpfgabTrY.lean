/-
  The given program's tour that unloads each box at once, and both programs' first served tour.
  Conditions: none.
-/
import Derived.Test.YtgcljhgpihpfgabTrX
namespace Go.Proofs.Ytgcljhgpihpfgab
set_option linter.unusedVariables false
open Go.RowKit

theorem filt_next {L : List Int} {k : Nat} {r : Int} (h : L[k]? = some r) : (L.take (k + 1)).filter isLoad = (L.take k).filter isLoad ++ (if isLoad r = true then [r] else []) := by
  rw [List.take_add_one, h, List.filter_append]
  congr 1
  show [r].filter isLoad = _
  by_cases h1 : isLoad r = true
  · rw [if_pos h1]; simp [h1]
  · rw [if_neg h1]; simp [h1]

set_option maxRecDepth 100000 in
set_option maxHeartbeats 2000000 in
theorem spec_FixTour (s : ByteArray) (q : Bool) (w : World) (hq : isTB s = q) (v : ByteArray) (hv : fixS s = v) :
    Calls Try.prog 23 #[.string s] w fun e w' => e = .returned (.tuple #[.string (if q then v else ⟨#[]⟩), .bool q]) ∧ Below w.heap.size w w' := by
  have HC := Lib.hid (ldTour_any s q w hq)
  cases hqq : q with
  | false =>
    rw [hqq] at HC
    clear hq hv hqq
    go_enter Try.func23, Try.ntmps23
    go_wp2_with fail
    refine HC.out.mono ?_
    rintro e w1 ⟨rfl, hb⟩
    go_wp2
    go_ret2
    exact ⟨rfl, hb⟩
  | true =>
    rw [hqq] at HC hq
    obtain ⟨hsz, hall⟩ := tourT_letters hq
    obtain ⟨L, hL⟩ : ∃ L, lettersT s = L := ⟨_, rfl⟩
    have hLl : L.length = s.size := by rw [← hL, letters_len]
    unfold fixS at hv
    rw [hL] at hv hall
    have HL := Lib.hid hL
    have HV := Lib.hid hv
    have HALL := Lib.hid hall
    clear hq hv hqq hL hall
    go_enter Try.func23, Try.ntmps23
    go_wp2_with fail
    refine HC.out.mono ?_
    rintro e w1 ⟨rfl, hb⟩
    have HB1 := Lib.hid hb
    clear hb
    go_wp2
    go_loopw [4, 5] (fun o i wr => ∃ (k : Nat), k ≤ s.size ∧ i = .int .i64 (k : Int) ∧ o = .string (strU (onceL ((L.take k).filter isLoad))) ∧ Below w.heap.size w wr) (fun _ i _ => s.size - (intOf i).toNat)
    case atStart => exact ⟨0, by omega, rfl, rfl, HB1.out⟩
    case round =>
      obtain ⟨k, hk, rfl, rfl, hb⟩ := hrel
      have HB := Lib.hid hb
      clear hb
      by_cases hlt : k < s.size
      · obtain ⟨c, hc⟩ := byte_get s hlt
        have hik := byte_at s hc
        have hcL : L[k]? = some (c.toNat : Int) := by rw [← HL.out]; exact letters_at hc
        have hlu := HALL.out _ (List.mem_of_getElem? hcL)
        have henc := encode_one c
        obtain ⟨r, hr⟩ : ∃ r : Int, (c.toNat : Int) = r := ⟨_, rfl⟩
        rw [hr] at hcL hlu henc
        have hik2 : ∀ hk : k < s.size, ((s[k]'hk).toNat : Int) = r := fun hk => by rw [hik hk]; exact hr
        have hr255 : 0 ≤ r ∧ r ≤ 255 := by have := c.toNat_lt; omega
        have hsmall := fun W => ldSmall_any r W hr255
        have hnx := filt_next hcL
        by_cases h1 : isLoad r = true
        · have hbr := isLoad_true.1 h1
          have hs1 : smallT r = r := by unfold smallT; rw [if_pos h1]
          rw [if_pos h1] at hnx
          replace henc := henc (by omega)
          obtain ⟨cx, hcx⟩ : ∃ cx : UInt8, (cx.toNat : Int) = r - 32 := ⟨UInt8.ofNat (r - 32).toNat, by rw [UInt8.toNat_ofNat']; omega⟩
          have henc2 := encode_one cx (by omega)
          rw [hcx] at henc2
          obtain ⟨F, hF⟩ : ∃ F, (L.take k).filter isLoad = F := ⟨_, rfl⟩
          have hFl : F.length ≤ 16 := by rw [← hF]; have := List.length_filter_le isLoad (L.take k); rw [List.length_take] at this; omega
          rw [hF] at hnx
          have ha1 := fun W => run_string_add_lists (P := Try.prog) W [c] [cx] (by simp) (by simp)
          have ha2 := fun W => run_string_add_lists (P := Try.prog) W (ofI (onceL F)) [c, cx] (by rw [ofI_len, onceL_len]; omega) (by simp)
          have he1 : (⟨(ofI (onceL F) ++ [c, cx]).toArray⟩ : ByteArray) = strU (onceL ((L.take (k + 1)).filter isLoad)) := by
            rw [hnx, onceL_append, onceL_one, strU, ofI_append, show [r, r - 32] = [r] ++ [r - 32] from rfl, ofI_append, ← hcx, ← hr, ofI_one, ofI_one]; rfl
          rw [he1] at ha2
          change ∀ W, (Op.stringOp .add (strU (onceL F)) _).run _ W = _ at ha2
          rw [show [c] ++ [cx] = [c, cx] from rfl] at ha1
          obtain ⟨b1, hb1⟩ : ∃ b : ByteArray, (⟨[c].toArray⟩ : ByteArray) = b := ⟨_, rfl⟩
          obtain ⟨b2, hb2⟩ : ∃ b : ByteArray, (⟨[cx].toArray⟩ : ByteArray) = b := ⟨_, rfl⟩
          obtain ⟨b3, hb3⟩ : ∃ b : ByteArray, (⟨[c, cx].toArray⟩ : ByteArray) = b := ⟨_, rfl⟩
          rw [hb1] at henc ha1
          rw [hb2] at henc2 ha1
          rw [hb3] at ha1 ha2
          have hu0 : IntKind.i32.wrap r = r := by rw [IntKind.wrap_i32]; omega
          have hu1 : IntKind.u8.wrap (r - 97) = r - 97 := by rw [IntKind.wrap_u8]; omega
          have hu2 : IntKind.u8.wrap (r - 97 + 65) = r - 32 := by rw [IntKind.wrap_u8]; omega
          have hu3 : IntKind.i32.wrap (r - 32) = r - 32 := by rw [IntKind.wrap_i32]; omega
          rw [hs1] at hsmall
          have HS := Lib.hid hsmall
          rw [hF]
          clear hc hik hcL hlu hr hsmall hnx hcx he1 hb1 hb2 hb3 h1 hs1
          go_wp2_with fail
          refine (HS.out _).mono ?_
          rintro e w3 ⟨rfl, rfl⟩
          go_wp2
          go_roundw
          case rel => exact ⟨k + 1, by omega, by go_num, rfl, HB.out⟩
          case measure => simp [intOf]; omega
        · have h1' : isLoad r = false := by simpa using h1
          have h2 : isUnload r = true := by rcases hlu with e | e; rw [h1'] at e; cases e; exact e
          have hbr := isUnload_true.1 h2
          have hs1 : smallT r = r + 32 := by unfold smallT; rw [h1', if_neg (by simp), if_pos h2]
          have d1 : (r + 32 == r) = false := beq_eq_false_iff_ne.2 (by omega)
          rw [if_neg h1, List.append_nil] at hnx
          rw [hs1] at hsmall
          have HS := Lib.hid hsmall
          have HN := Lib.hid hnx
          clear hc hik hcL hlu hr hsmall hnx h1 h1' h2 hs1 henc
          go_wp2_with fail
          refine (HS.out _).mono ?_
          rintro e w3 ⟨rfl, rfl⟩
          go_wp2
          go_roundw
          case rel => exact ⟨k + 1, by omega, by go_num, by rw [HN.out], HB.out⟩
          case measure => simp [intOf]; omega
      · obtain rfl : k = s.size := by omega
        rw [List.take_of_length_le (by omega), HV.out]
        go_wp2
        go_ret2
        exact ⟨rfl, HB.out⟩

theorem abc_to {n : Nat} (h : n ≤ 8) : (⟨#[97, 98, 99, 100, 101, 102, 103, 104]⟩ : ByteArray).extract 0 n = strU (firstL n) := by
  rcases (by omega : n = 0 ∨ n = 1 ∨ n = 2 ∨ n = 3 ∨ n = 4 ∨ n = 5 ∨ n = 6 ∨ n = 7 ∨ n = 8) with rfl | rfl | rfl | rfl | rfl | rfl | rfl | rfl | rfl <;> decide
theorem abc_one {k : Nat} (h : k < 8) : (⟨#[97, 98, 99, 100, 101, 102, 103, 104]⟩ : ByteArray).extract k (k + 1) = ⟨(ofI [97 + (k : Int)]).toArray⟩ ∧ (⟨#[65, 66, 67, 68, 69, 70, 71, 72]⟩ : ByteArray).extract k (k + 1) = ⟨(ofI [97 + (k : Int) - 32]).toArray⟩ := by
  rcases (by omega : k = 0 ∨ k = 1 ∨ k = 2 ∨ k = 3 ∨ k = 4 ∨ k = 5 ∨ k = 6 ∨ k = 7) with rfl | rfl | rfl | rfl | rfl | rfl | rfl | rfl <;> decide

set_option maxRecDepth 100000 in
theorem impl_FirstServed (a : Int) (q : Bool) (w : World) (hq : inB a 0 8 = q) (v : ByteArray) (hv : firstS a = v) :
    Calls Try.prog 26 #[.int .i64 a] w fun e w' => e = .returned (.tuple #[.string (if q then v else ⟨#[]⟩), .bool q]) ∧ Below w.heap.size w w' := by
  have HC := Lib.hid (isNumber_any a q hq w)
  cases q with
  | false =>
    clear hq hv
    go_enter Try.func26, Try.ntmps26
    go_wp2_with fail
    refine HC.out.mono ?_
    rintro e w1 ⟨rfl, rfl⟩
    go_wp2
    go_ret2
    exact ⟨rfl, Below.refl _ _⟩
  | true =>
    rw [inB_true] at hq
    obtain ⟨n, rfl⟩ : ∃ n : Nat, a = n := ⟨a.toNat, by omega⟩
    have hbd : ∀ c ∈ firstL n, 0 ≤ c ∧ c ≤ 255 := fun c hc => by have := isLoad_true.1 (firstL_load (n := n) (by omega) c hc); omega
    have hlt := strU_letters hbd
    have hsl := fun W => run_slice_string_to_if (P := Try.prog) W 9 ⟨#[97, 98, 99, 100, 101, 102, 103, 104]⟩ .i64 (n : Int) Try.underlying9
    have hc1 : 0 ≤ (n : Int) ∧ (n : Int) ≤ ((⟨#[97, 98, 99, 100, 101, 102, 103, 104]⟩ : ByteArray).size : Int) := by constructor; omega; exact hq.2
    simp only [hc1, and_self, if_true, Int.toNat_natCast, abc_to (n := n) (by omega)] at hsl
    have hO := fun W => atOnce_any (strU (firstL n)) (by rw [strU_size, firstL_len]; omega) (by rw [hlt]; exact firstL_load (by omega)) v (by rw [hlt, ← hv, firstS, Int.toNat_natCast]) W
    have HO := Lib.hid hO
    generalize strU (firstL n) = p at *
    clear hq hv hbd hlt hO hc1
    go_enter Try.func26, Try.ntmps26
    go_wp2_with fail
    refine HC.out.mono ?_
    rintro e w1 ⟨rfl, rfl⟩
    go_wp2_with fail
    refine (HO.out _).mono ?_
    rintro e w3 ⟨rfl, hb3⟩
    go_wp2
    go_ret2
    exact ⟨rfl, hb3⟩

set_option maxRecDepth 100000 in
set_option maxHeartbeats 2000000 in
theorem spec_FirstServed (a : Int) (q : Bool) (w : World) (hq : inB a 0 8 = q) (v : ByteArray) (hv : firstS a = v) :
    Calls Try.prog 25 #[.int .i64 a] w fun e w' => e = .returned (.tuple #[.string (if q then v else ⟨#[]⟩), .bool q]) ∧ Below w.heap.size w w' := by
  have HC := Lib.hid (l1In_any a 0 8 q hq w)
  cases q with
  | false =>
    clear hq hv
    go_enter Try.func25, Try.ntmps25
    go_wp2_with fail
    refine HC.out.mono ?_
    rintro e w1 ⟨rfl, rfl⟩
    go_wp2
    go_ret2
    exact ⟨rfl, Below.refl _ _⟩
  | true =>
    rw [inB_true] at hq
    obtain ⟨n, rfl⟩ : ∃ n : Nat, a = n := ⟨a.toNat, by omega⟩
    have hn8 : n ≤ 8 := by omega
    rw [firstS, Int.toNat_natCast] at hv
    have HV := Lib.hid hv
    clear hq hv
    go_enter Try.func25, Try.ntmps25
    go_wp2_with fail
    refine HC.out.mono ?_
    rintro e w1 ⟨rfl, rfl⟩
    go_wp2
    go_loopw [4, 5] (fun o i wr => ∃ (k : Nat), k ≤ n ∧ i = .int .i64 (k : Int) ∧ o = .string (strU (onceL (firstL k))) ∧ Below w.heap.size w wr) (fun _ i _ => n - (intOf i).toNat)
    case atStart => exact ⟨0, by omega, rfl, rfl, Below.refl _ _⟩
    case round =>
      obtain ⟨k, hk, rfl, rfl, hb⟩ := hrel
      have HB := Lib.hid hb
      clear hb
      by_cases hlt : k < n
      · have hwk : wrap64 ((k : Int) + 1) = (k : Int) + 1 := by unfold wrap64; omega
        have hwk2 : IntKind.i64.wrap ((k : Int) + 1) = (k : Int) + 1 := by rw [IntKind.wrap_i64]; omega
        have hab := abc_one (k := k) (by omega)
        have hs1 := fun W => run_slice_string (P := Try.prog) W 9 ⟨#[97, 98, 99, 100, 101, 102, 103, 104]⟩ .i64 .i64 (k : Int) ((k : Int) + 1) Try.underlying9 (by omega) (by omega) (by show (k : Int) + 1 ≤ 8; omega)
        have hs2 := fun W => run_slice_string (P := Try.prog) W 9 ⟨#[65, 66, 67, 68, 69, 70, 71, 72]⟩ .i64 .i64 (k : Int) ((k : Int) + 1) Try.underlying9 (by omega) (by omega) (by show (k : Int) + 1 ≤ 8; omega)
        have hk1 : ((k : Int) + 1).toNat = k + 1 := by omega
        simp only [Int.toNat_natCast, hk1, hab.1] at hs1
        simp only [Int.toNat_natCast, hk1, hab.2] at hs2
        have ha1 := fun W => run_string_add_lists (P := Try.prog) W (ofI [97 + (k : Int)]) (ofI [97 + (k : Int) - 32]) (by rw [ofI_len]; simp) (by rw [ofI_len]; simp)
        have ha2 := fun W => run_string_add_lists (P := Try.prog) W (ofI (onceL (firstL k))) (ofI [97 + (k : Int)] ++ ofI [97 + (k : Int) - 32]) (by rw [ofI_len, onceL_len, firstL_len]; omega) (by simp [ofI])
        have he1 : (⟨(ofI (onceL (firstL k)) ++ (ofI [97 + (k : Int)] ++ ofI [97 + (k : Int) - 32])).toArray⟩ : ByteArray) = strU (onceL (firstL (k + 1))) := by
          rw [firstL_succ, onceL_append, onceL_one, strU, ofI_append, ← ofI_append]; rfl
        rw [he1] at ha2
        change ∀ W, (Op.stringOp .add (strU (onceL (firstL k))) _).run _ W = _ at ha2
        obtain ⟨b1, hb1⟩ : ∃ b : ByteArray, (⟨(ofI [97 + (k : Int)]).toArray⟩ : ByteArray) = b := ⟨_, rfl⟩
        obtain ⟨b2, hb2⟩ : ∃ b : ByteArray, (⟨(ofI [97 + (k : Int) - 32]).toArray⟩ : ByteArray) = b := ⟨_, rfl⟩
        obtain ⟨b3, hb3⟩ : ∃ b : ByteArray, (⟨(ofI [97 + (k : Int)] ++ ofI [97 + (k : Int) - 32]).toArray⟩ : ByteArray) = b := ⟨_, rfl⟩
        rw [hb1] at hs1 ha1
        rw [hb2] at hs2 ha1
        rw [hb3] at ha1 ha2
        clear hab hk1 he1 hb1 hb2 hb3
        go_wp2_with fail
        refine wp_region_held_drew (S := (fun _ => True)) (by kernel_rfl) trivial (fun hH0 => ?_)
        refine wpAnyH_take (i := 0) (v := ?_) (ops_at rfl) (by kernel_rfl) (by kernel_rfl) (by kernel_rfl) (fun _ _ _ h => h) (Or.inl ⟨by rfl, ?ya0⟩) (by assumption) ?na0
        case ya0 => (intro wS hSw; (try dsimp only at hSw); go_simp; try rfl)
        try simp only [Act.put, List.setIfInBounds_toArray, List.set_cons_zero, List.set_cons_succ]
        refine wpAnyH_take (i := 1) (v := ?_) (ops_at rfl) (by kernel_rfl) (by kernel_rfl) (by kernel_rfl) (fun _ _ _ h => h) (Or.inl ⟨by rfl, ?ya1⟩) (by assumption) ?na1
        case ya1 => (intro wS hSw; (try dsimp only at hSw); go_simp; try rfl)
        try simp only [Act.put, List.setIfInBounds_toArray, List.set_cons_zero, List.set_cons_succ]
        refine wpAnyH_take (i := 2) (v := ?_) (ops_at rfl) (by kernel_rfl) (by kernel_rfl) (by kernel_rfl) (fun _ _ _ h => h) (Or.inl ⟨by rfl, ?ya2⟩) (by assumption) ?na2
        case ya2 => (intro wS hSw; (try dsimp only at hSw); go_simp; try rfl)
        try simp only [Act.put, List.setIfInBounds_toArray, List.set_cons_zero, List.set_cons_succ]
        refine wpAnyH_take (i := 3) (v := ?_) (ops_at rfl) (by kernel_rfl) (by kernel_rfl) (by kernel_rfl) (fun _ _ _ h => h) (Or.inl ⟨by rfl, ?ya3⟩) (by assumption) ?na3
        case ya3 => (intro wS hSw; (try dsimp only at hSw); go_simp; try rfl)
        try simp only [Act.put, List.setIfInBounds_toArray, List.set_cons_zero, List.set_cons_succ]
        refine wpAnyH_take (i := 4) (v := ?_) (ops_at rfl) (by kernel_rfl) (by kernel_rfl) (by kernel_rfl) (fun _ _ _ h => h) (Or.inl ⟨by rfl, ?ya4⟩) (by assumption) ?na4
        case ya4 => (intro wS hSw; (try dsimp only at hSw); go_simp; try rfl)
        try simp only [Act.put, List.setIfInBounds_toArray, List.set_cons_zero, List.set_cons_succ]
        refine wpAnyH_take (i := 5) (v := ?_) (ops_at rfl) (by kernel_rfl) (by kernel_rfl) (by kernel_rfl) (fun _ _ _ h => h) (Or.inl ⟨by rfl, ?ya5⟩) (by assumption) ?na5
        case ya5 => (intro wS hSw; (try dsimp only at hSw); go_simp; try rfl)
        try simp only [Act.put, List.setIfInBounds_toArray, List.set_cons_zero, List.set_cons_succ]
        refine wpAnyH_take (i := 6) (v := ?_) (ops_at rfl) (by kernel_rfl) (by kernel_rfl) (by kernel_rfl) (fun _ _ _ h => h) (Or.inl ⟨by rfl, ?ya6⟩) (by assumption) ?na6
        case ya6 => (intro wS hSw; (try dsimp only at hSw); go_simp; try rfl)
        try simp only [Act.put, List.setIfInBounds_toArray, List.set_cons_zero, List.set_cons_succ]
        refine wpAnyH_take (i := 7) (v := ?_) (ops_at rfl) (by kernel_rfl) (by kernel_rfl) (by kernel_rfl) (fun _ _ _ h => h) (Or.inl ⟨by rfl, ?ya7⟩) (by assumption) ?na7
        case ya7 => (intro wS hSw; (try dsimp only at hSw); go_simp; try rfl)
        try simp only [Act.put, List.setIfInBounds_toArray, List.set_cons_zero, List.set_cons_succ]
        refine wpAnyH_take (i := 8) (v := ?_) (ops_at rfl) (by kernel_rfl) (by kernel_rfl) (by kernel_rfl) (fun _ _ _ h => h) (Or.inl ⟨by rfl, ?ya8⟩) (by assumption) ?na8
        case ya8 => (intro wS hSw; (try dsimp only at hSw); go_simp; try rfl)
        try simp only [Act.put, List.setIfInBounds_toArray, List.set_cons_zero, List.set_cons_succ]
        refine wpAnyH_take (i := 9) (v := ?_) (ops_at rfl) (by kernel_rfl) (by kernel_rfl) (by kernel_rfl) (fun _ _ _ h => h) (Or.inl ⟨by rfl, ?ya9⟩) (by assumption) ?na9
        case ya9 => (intro wS hSw; (try dsimp only at hSw); go_simp; try rfl)
        try simp only [Act.put, List.setIfInBounds_toArray, List.set_cons_zero, List.set_cons_succ]
        refine wpAnyH_take (i := 10) (v := ?_) (ops_at rfl) (by kernel_rfl) (by kernel_rfl) (by kernel_rfl) (fun _ _ _ h => h) (Or.inl ⟨by rfl, ?ya10⟩) (by assumption) ?na10
        case ya10 => (intro wS hSw; (try dsimp only at hSw); go_simp; try rfl)
        try simp only [Act.put, List.setIfInBounds_toArray, List.set_cons_zero, List.set_cons_succ]
        refine wpAnyH_take (i := 11) (v := ?_) (ops_at rfl) (by kernel_rfl) (by kernel_rfl) (by kernel_rfl) (fun _ _ _ h => h) (Or.inl ⟨by rfl, ?ya11⟩) (by assumption) ?na11
        case ya11 => (intro wS hSw; (try dsimp only at hSw); go_simp; try rfl)
        try simp only [Act.put, List.setIfInBounds_toArray, List.set_cons_zero, List.set_cons_succ]
        refine wpAnyH_done (by kernel_rfl) ?_ _
        go_wp2
        go_roundw
        case rel => exact ⟨k + 1, by omega, by go_num, rfl, HB.out.drew⟩
        case measure => simp [intOf]; omega
      · obtain rfl : k = n := by omega
        rw [HV.out]
        go_wp2
        go_ret2
        exact ⟨rfl, HB.out⟩
end Go.Proofs.Ytgcljhgpihpfgab

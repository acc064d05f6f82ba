/-
  Both programs count the loadings with the same boxes.
  Conditions: none.
-/
import Derived.Test.YtgcljhgpihpfgaaLdN
import Derived.Test.YtgcljhgpihpfgaaLdA
namespace Go.Proofs.Ytgcljhgpihpfgaa
set_option linter.unusedVariables false
open Go.RowKit

theorem countByte_cnt (l : List UInt8) (c : UInt8) : Lib.countByte l c = cntS c.toNat l := by
  unfold Lib.countByte cntS List.count
  refine List.countP_congr fun x _ => ?_
  simp only [beq_iff_eq, decide_eq_true_eq]
  exact ⟨fun h => by rw [h], fun h => UInt8.toNat_inj.1 h⟩
theorem wrapK {a : Int} (n : Nat) (h : a = n) (hn : n ≤ 9000000000) : wrap64 a = (n : Int) := by
  unfold wrap64; omega

set_option maxHeartbeats 2000000 in
theorem spec_CountLoadings (s : ByteArray) (q : Bool) (w : World) (hq : ldB s.data.toList = q) (v : Int) (hv : ((valC s.data.toList : Nat) : Int) = v) :
    Calls Try.prog 29 #[.string s] w fun e w' => e = .returned (.tuple #[.int .i64 (if q then v else 0), .bool q]) ∧ Below w.heap.size w w' := by
  have HQ := Lib.hid hq
  have HV := Lib.hid hv
  clear hq hv
  cases q
  · go_enter Try.func29, Try.ntmps29
    go_wp2_with fail
    refine (ldGood_any s _ HQ.out _).mono ?_
    rintro e w1 ⟨rfl, rfl⟩
    go_wp2
    go_ret2
    exact ⟨rfl, Below.refl _ _⟩
  · have HD := Lib.hid (ldB_true.1 HQ.out).2
    have hsz : s.size ≤ 12 := by have := (ldB_true.1 HQ.out).1; rw [byte_len] at this; exact this
    obtain ⟨l, hl⟩ : ∃ l, s.data.toList = l := ⟨_, rfl⟩
    have hll : l.length = s.size := by rw [← hl, byte_len]
    rw [hl] at HD HV
    have HL := Lib.hid hl
    clear hl
    go_enter Try.func29, Try.ntmps29
    go_wp2_with fail
    refine (ldGood_any s _ HQ.out _).mono ?_
    rintro e w1 ⟨rfl, rfl⟩
    clear HQ
    go_wp2
    go_loopw [4, 5, 6] (fun o a t wr => ∃ m : Nat, m ≤ 9 ∧ t = .int .u8 (49 + (m : Int)) ∧ a = .int .i64 ((ascN m l).length : Nat) ∧ o = .int .i64 (valC (ascN m l) : Nat) ∧ wr = w) (fun _ _ t _ => 58 - (intOf t).toNat)
    case atStart => exact ⟨0, by omega, rfl, rfl, by rw [show valC (ascN 0 l) = 1 by show valC [] = 1; decide +kernel]; rfl, rfl⟩
    case round =>
      obtain ⟨m, hm, rfl, rfl, rfl, rfl⟩ := hrel
      by_cases hlt : m < 9
      · have d0 : decide (49 + (m : Int) ≤ 57) = true := decide_eq_true (by omega)
        rw [← midC_zero l m]
        go_wp2
        go_loopw [4, 5, 7, 8] (fun o a sm i wr2 => ∃ k : Nat, k ≤ s.size ∧ i = .int .i64 (k : Int) ∧ sm = .int .i64 (cntS (49 + m) (l.take k) : Nat) ∧ a = .int .i64 ((midC l m k).length : Nat) ∧ o = .int .i64 (valC (midC l m k) : Nat) ∧ wr2 = wr) (fun _ _ _ i _ => s.size - (intOf i).toNat)
        case atStart => exact ⟨0, by omega, rfl, rfl, rfl, rfl, rfl⟩
        case round =>
          obtain ⟨k, hk, rfl, rfl, rfl, rfl, rfl⟩ := hrel
          by_cases hkl : k < s.size
          · obtain ⟨c, hc⟩ : ∃ c, l[k]? = some c := ⟨_, List.getElem?_eq_getElem (by omega)⟩
            have hik := byte_at s (k := k) (c := c) (by rw [HL.out]; exact hc)
            have hdig := HD.out c (List.mem_of_getElem? hc)
            have hms := midC_step (m := m) hc
            have hml := midC_len l m (k + 1)
            have hcs : cntS (49 + m) (l.take (k + 1)) = cntS (49 + m) (l.take k) + (if c.toNat = 49 + m then 1 else 0) := by rw [List.take_add_one, hc]; exact cntS_snoc _ _ _
            by_cases he : c.toNat = 49 + m
            · have d1 : ((c.toNat : Int) == 49 + (m : Int)) = true := beq_iff_eq.2 (by omega)
              rw [if_pos he] at hms hcs
              have hst := valC_step (midC l m k) c hdig
              rw [he, midC_cnt, ← hms, ← hcs] at hst
              have hlen : (midC l m (k + 1)).length = (midC l m k).length + 1 := by rw [hms, List.length_append]; rfl
              rw [← hlen, hcs] at hst
              have hbd := valC_bd (l := midC l m k) (by omega)
              have hbd2 := valC_bd (l := midC l m (k + 1)) (by omega)
              have HLEN := Lib.hid hlen
              have HCS := Lib.hid hcs
              have HST := Lib.hid hst
              have HE := Lib.hid he
              have hl12 : (midC l m k).length ≤ 11 := by omega
              rw [hlen] at hst
              have hprod : valC (midC l m k) * ((midC l m k).length + 1) ≤ 479001600 * 12 := Nat.mul_le_mul hbd (by omega)
              generalize hx : valC (midC l m k) = x at *
              generalize hy : (midC l m k).length = y at *
              generalize hz : cntS (49 + m) (l.take k) = z at *
              have hm1 : wrap64 ((x : Int) * ((y : Int) + 1)) = ((x * (y + 1) : Nat) : Int) := wrapK _ (by push_cast; rfl) (by omega)
              have hfin : wrap64 ((wrap64 ((x : Int) * ((y : Int) + 1))).tdiv ((z : Int) + 1)) = ((valC (midC l m (k + 1)) : Nat) : Int) := by
                rw [hm1]
                exact wrapK _ (by rw [← hst]; exact (Int.ofNat_tdiv (x * (y + 1)) (z + 1)).symm) (by omega)
              have HF := Lib.hid hfin
              have hz0 : ((z : Int) + 1 == 0) = false := beq_eq_false_iff_ne.2 (by omega)
              have hz12 : z ≤ 12 := by rw [← hz]; refine Nat.le_trans List.countP_le_length ?_; rw [List.length_take]; omega
              clear hm1 hfin hst hms hml hcs he hlen hx hy hz hc hdig hprod hbd2
              go_wp2
              go_roundw
              case rel => exact ⟨k + 1, by omega, by go_num, by rw [HCS.out]; rfl, by rw [HLEN.out]; rfl, by rw [HF.out], by first | rfl | trivial⟩
              case measure => simp [intOf]; omega
            · have d1 : ((c.toNat : Int) == 49 + (m : Int)) = false := beq_eq_false_iff_ne.2 (by omega)
              have hcs2 : cntS (49 + m) (l.take (k + 1)) = cntS (49 + m) (l.take k) := by rw [hcs, if_neg he]; rfl
              rw [if_neg he, List.append_nil] at hms
              have HMS := Lib.hid hms
              have HCS := Lib.hid hcs2
              clear he hms hcs hcs2 hml hdig hc
              go_wp2
              go_roundw
              case rel => exact ⟨k + 1, by omega, by go_num, by rw [HCS.out], by rw [HMS.out], by rw [HMS.out], by first | rfl | trivial⟩
              case measure => simp [intOf]; omega
          · obtain rfl : k = s.size := by omega
            rw [midC_end l m s.size (by omega)]
            go_wp2
            go_roundw
            case rel => exact ⟨m + 1, by omega, by first | rfl | go_num | (congr 1; omega), rfl, rfl, by first | rfl | trivial⟩
            case measure => simp [intOf]; omega
      · obtain rfl : m = 9 := by omega
        have hvv : ((valC (ascN 9 l) : Nat) : Int) = v := by rw [valC_perm (ascN_perm HD.out)]; exact HV.out
        have HVV := Lib.hid hvv
        clear hvv
        generalize valC (ascN 9 l) = x at *
        generalize (ascN 9 l).length = y at *
        go_wp2
        go_ret2
        exact ⟨by rw [HVV.out]; rfl, Below.refl _ _⟩

set_option maxHeartbeats 2000000 in
theorem impl_CountLoadings (s : ByteArray) (q : Bool) (w : World) (hq : ldB s.data.toList = q) (v : Int) (hv : ((valC s.data.toList : Nat) : Int) = v) :
    Calls Try.prog 30 #[.string s] w fun e w' => e = .returned (.tuple #[.int .i64 (if q then v else 0), .bool q]) ∧ Below w.heap.size w w' := by
  have HQ := Lib.hid hq
  have HV := Lib.hid hv
  clear hq hv
  cases q
  · go_enter Try.func30, Try.ntmps30
    go_wp2_with fail
    refine (impl_IsLoading s _ _ HQ.out).mono ?_
    rintro e w1 ⟨rfl, hb1⟩
    go_wp2
    go_ret2
    exact ⟨rfl, hb1⟩
  · have HD := Lib.hid (ldB_true.1 HQ.out).2
    have hsz : s.size ≤ 12 := by have := (ldB_true.1 HQ.out).1; rw [byte_len] at this; exact this
    go_enter Try.func30, Try.ntmps30
    go_wp2_with fail
    refine (impl_IsLoading s _ _ HQ.out).mono ?_
    rintro e w1 ⟨rfl, hb1⟩
    have HB := Lib.hid hb1
    clear HQ hb1
    go_wp2
    go_loopw [4, 12] (fun o i wr => ∃ k : Nat, k ≤ s.size ∧ i = .int .i64 (k : Int) ∧ o = .int .i64 (valC (s.data.toList.take k) : Nat) ∧ wr = w1) (fun _ i _ => s.size - (intOf i).toNat)
    case atStart => exact ⟨0, by omega, rfl, by rw [show valC (s.data.toList.take 0) = 1 by show valC [] = 1; decide +kernel]; rfl, rfl⟩
    case round =>
      obtain ⟨k, hk, rfl, rfl, rfl⟩ := hrel
      by_cases hkl : k < s.size
      · obtain ⟨c, hc⟩ := byte_get s hkl
        have hdig := HD.out c (List.mem_of_getElem? hc)
        have hst := valC_step (s.data.toList.take k) c hdig
        have htk := byte_take hc
        have hlk : (s.data.toList.take k).length = k := by rw [List.length_take, byte_len]; omega
        rw [← htk, hlk] at hst
        have hbd := valC_bd (l := s.data.toList.take k) (by omega)
        have hbd2 := valC_bd (l := s.data.toList.take (k + 1)) (by rw [List.length_take, byte_len]; omega)
        have hpl := part_list s (k + 1)
        have hps := part_size s (k := k + 1) (by omega)
        have hct : Lib.countByte (s.extract 0 (k + 1)).data.toList c = cntS c.toNat (s.data.toList.take k) + 1 := by
          rw [hpl, countByte_cnt, htk, cntS_snoc, if_pos rfl]
        have hex := extract_one hc
        have hsl1 := fun W => run_slice_string_to_if (P := Try.prog) W 9 s .i64 ((k : Int) + 1) Try.underlying9
        have hc1 : 0 ≤ (k : Int) + 1 ∧ (k : Int) + 1 ≤ (s.size : Int) := by omega
        simp only [hc1, and_self, if_true, show ((k : Int) + 1).toNat = k + 1 by omega] at hsl1
        have hsl2 := fun W => run_slice_string (P := Try.prog) W 9 s .i64 .i64 (k : Int) ((k : Int) + 1) Try.underlying9 (by omega) (by omega) (by omega)
        simp only [show ((k : Int)).toNat = k by omega, show ((k : Int) + 1).toNat = k + 1 by omega, hex] at hsl2
        obtain ⟨p, hp⟩ : ∃ p, s.extract 0 (k + 1) = p := ⟨_, rfl⟩
        rw [hp] at hps hct hsl1
        have hcall := stringsCount_any p c wr
        rw [hct] at hcall
        have hprod : valC (s.data.toList.take k) * (k + 1) ≤ 479001600 * 12 := Nat.mul_le_mul hbd (by omega)
        generalize hx : valC (s.data.toList.take k) = x at *
        generalize hz : cntS c.toNat (s.data.toList.take k) = z at *
        have hm1 : wrap64 ((x : Int) * ((k : Int) + 1)) = ((x * (k + 1) : Nat) : Int) := wrapK _ (by push_cast; rfl) (by omega)
        have hfin : wrap64 ((wrap64 ((x : Int) * ((k : Int) + 1))).tdiv ((z : Int) + 1)) = ((valC (s.data.toList.take (k + 1)) : Nat) : Int) := by
          rw [hm1]
          exact wrapK _ (by rw [← hst]; exact (Int.ofNat_tdiv (x * (k + 1)) (z + 1)).symm) (by omega)
        have HF := Lib.hid hfin
        have hcall2 : Calls Try.prog 48 #[.string p, .string ⟨[c].toArray⟩] wr fun e w' => e = .returned (.int .i64 ((z : Int) + 1)) ∧ wr = w' := hcall
        have HC := Lib.hid hcall2
        have hz0 : ((z : Int) + 1 == 0) = false := beq_eq_false_iff_ne.2 (by omega)
        have hps2 : (p.size : Int) = (k : Int) + 1 := by omega
        have HPS := Lib.hid hps2
        clear hps hps2 hct hex hcall hcall2 hm1 hfin hst htk hlk hbd hbd2 hpl hx hz hc hdig hprod hp
        go_wp2_with fail
        rw [HPS.out]
        refine HC.out.mono ?_
        rintro e w2 ⟨rfl, rfl⟩
        go_wp2
        go_roundw
        case rel => exact ⟨k + 1, by omega, by go_num, by rw [HF.out], by first | rfl | trivial⟩
        case measure => simp [intOf]; omega
      · obtain rfl : k = s.size := by omega
        rw [List.take_of_length_le (by rw [byte_len]; exact Nat.le_refl _)]
        have HVV := HV
        generalize valC s.data.toList = x at *
        go_wp2
        go_ret2
        exact ⟨by rw [HVV.out]; rfl, HB.out⟩
end Go.Proofs.Ytgcljhgpihpfgaa

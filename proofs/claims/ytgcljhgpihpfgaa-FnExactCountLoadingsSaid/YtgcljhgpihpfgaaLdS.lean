/-
  The given program's boxes with later stops first.
  Conditions: at most twelve boxes.
-/
import Derived.Test.YtgcljhgpihpfgaaLdI
namespace Go.Proofs.Ytgcljhgpihpfgaa
set_option linter.unusedVariables false
open Go.RowKit

theorem size_mk (l : List UInt8) : (ByteArray.mk l.toArray).size = l.length := by simp [ByteArray.size]
theorem ofS_take {s : ByteArray} {m k : Nat} {c : UInt8} (h : s.data.toList[k]? = some c) : ofS m (s.data.toList.take (k + 1)) = ofS m (s.data.toList.take k) ++ (if c.toNat = m then [c] else []) := by
  rw [byte_take h, ofS_snoc]
theorem extract_one {s : ByteArray} {k : Nat} {c : UInt8} (h : s.data.toList[k]? = some c) : s.extract k (k + 1) = ⟨[c].toArray⟩ := by
  apply ByteArray.ext
  rw [ByteArray.data_extract]
  apply Array.ext'
  rw [Array.toList_extract]
  obtain ⟨hlt, he⟩ := List.getElem?_eq_some_iff.1 h
  rw [List.extract_eq_take_drop, show k + 1 - k = 1 by omega, List.drop_eq_getElem_cons hlt, he]
  rfl
theorem srtN_le {s : ByteArray} (h : s.size ≤ 12) (n k : Nat) (hn : n ≤ 9) : (srtN n s.data.toList ++ ofS (57 - n) (s.data.toList.take k)).length ≤ 200 := by
  have h1 := srtN_small n s.data.toList (by rw [byte_len]; exact h)
  have h2 : (ofS (57 - n) (s.data.toList.take k)).length ≤ (s.data.toList.take k).length := List.length_filter_le _ _
  rw [List.length_take, byte_len] at h2
  rw [List.length_append]
  omega

set_option maxHeartbeats 1000000 in
theorem ldSorted_any (s : ByteArray) (w : World) (hs : s.size ≤ 12) :
    Calls Try.prog 49 #[.string s] w fun e w' => e = .returned (.string ⟨(srtL s.data.toList).toArray⟩) ∧ w = w' := by
  go_enter Try.func49, Try.ntmps49
  go_wp2
  go_loopw [3, 4, 5] (fun o t _ wr => ∃ m : Nat, m ≤ 9 ∧ t = .int .u8 (57 - (m : Int)) ∧ o = .string ⟨(srtN m s.data.toList).toArray⟩ ∧ wr = w) (fun _ t _ _ => (intOf t).toNat)
  case atStart => exact ⟨0, by omega, rfl, rfl, rfl⟩
  case round =>
    obtain ⟨m, hm, rfl, rfl, rfl⟩ := hrel
    by_cases hlt : m < 9
    · have d1 : decide (57 - (m : Int) > 48) = true := decide_eq_true (by omega)
      go_wp2
      go_loopw [3, 5] (fun o i wr2 => ∃ k : Nat, k ≤ s.size ∧ i = .int .i64 (k : Int) ∧ o = .string ⟨(srtN m s.data.toList ++ ofS (57 - m) (s.data.toList.take k)).toArray⟩ ∧ wr2 = wr) (fun _ i _ => s.size - (intOf i).toNat)
      case atStart => exact ⟨0, by omega, rfl, by simp [ofS], rfl⟩
      case round =>
        obtain ⟨k, hk, rfl, rfl, rfl⟩ := hrel
        by_cases hkl : k < s.size
        · obtain ⟨c, hc⟩ := byte_get s hkl
          have hik := byte_at s hc
          have hsn := ofS_take (m := 57 - m) hc
          have hex := extract_one hc
          have hbd := srtN_le hs m k (by omega)
          have HSN := Lib.hid hsn
          have HC := Lib.hid hc
          obtain ⟨o, ho⟩ : ∃ o, srtN m s.data.toList ++ ofS (57 - m) (s.data.toList.take k) = o := ⟨_, rfl⟩
          rw [ho] at hbd ⊢
          have HO := Lib.hid ho
          clear hsn hc ho
          by_cases hq : c.toNat = 57 - m
          · have d2 : ((c.toNat : Int) == 57 - (m : Int)) = true := by simp; omega
            have hks : ((k : Int) + 1) ≤ (s.size : Int) := by omega
            have hsl := run_slice_string (P := Try.prog) wr 9 s .i64 .i64 (k : Int) ((k : Int) + 1) Try.underlying9 (by omega) (by omega) (by omega)
            rw [show ((k : Int)).toNat = k by omega, show ((k : Int) + 1).toNat = k + 1 by omega, hex] at hsl
            have HQ := Lib.hid hq
            clear hq hex
            have hsum := run_string_add_lists (P := Try.prog) wr o [c] (by omega) (by simp)
            go_wp2
            go_roundw
            case rel => exact ⟨k + 1, by omega, by go_num, by rw [HSN.out, if_pos HQ.out, ← List.append_assoc, HO.out], by first | rfl | trivial⟩
            case measure => simp [intOf]; omega
          · have d2 : ((c.toNat : Int) == 57 - (m : Int)) = false := by simp; omega
            go_wp2
            go_roundw
            case rel => exact ⟨k + 1, by omega, by go_num, by rw [HSN.out, if_neg hq, List.append_nil, HO.out], by first | rfl | trivial⟩
            case measure => simp [intOf]; omega
        · obtain rfl : k = s.size := by omega
          have hta : s.data.toList.take s.size = s.data.toList := List.take_of_length_le (by rw [byte_len]; exact Nat.le_refl _)
          have HT := Lib.hid hta
          clear hta
          go_wp2
          go_roundw
          case rel => exact ⟨m + 1, by omega, by congr 1; omega, by rw [HT.out]; rfl, by first | rfl | trivial⟩
          case measure => simp [intOf]; omega
    · obtain rfl : m = 9 := by omega
      go_wp2
      go_ret
      exact ⟨rfl, rfl⟩
end Go.Proofs.Ytgcljhgpihpfgaa

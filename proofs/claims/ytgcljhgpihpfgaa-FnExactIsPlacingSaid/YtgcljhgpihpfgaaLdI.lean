/-
  Both programs' test for a loading.
  Conditions: none.
-/
import Derived.Test.YtgcljhgpihpfgaaLdM
import Derived.Laws.RangeAny
import Derived.ShutString
namespace Go.Proofs.Ytgcljhgpihpfgaa
set_option linter.unusedVariables false
open Go.RowKit

theorem byte_at (s : ByteArray) {k : Nat} {c : UInt8} (h : s.data.toList[k]? = some c) : ∀ hk : k < s.size, s[k]'hk = c := by
  intro hk
  obtain ⟨hlt, he⟩ := List.getElem?_eq_some_iff.1 h
  rw [← he]
  simp [ByteArray.getElem_eq_getElem_data]
theorem byte_len (s : ByteArray) : s.data.toList.length = s.size := by rw [Array.length_toList]; rfl
theorem byte_get (s : ByteArray) {k : Nat} (h : k < s.size) : ∃ c, s.data.toList[k]? = some c := ⟨_, List.getElem?_eq_getElem (by rw [byte_len]; exact h)⟩
theorem byte_take {s : ByteArray} {k : Nat} {c : UInt8} (h : s.data.toList[k]? = some c) : s.data.toList.take (k + 1) = s.data.toList.take k ++ [c] := by rw [List.take_add_one, h]; rfl
theorem u8_bd (c : UInt8) : c.toNat < 256 := c.toNat_lt
theorem ldB_long {s : ByteArray} (h : 12 < s.size) : ldB s.data.toList = false := by
  unfold ldB
  rw [byte_len, decide_eq_false (by omega)]; rfl
theorem ldB_not {s : ByteArray} {k : Nat} {c : UInt8} (h : s.data.toList[k]? = some c) (hc : ldD c = false) : ldB s.data.toList = false := by
  unfold ldB
  rw [List.all_eq_false.2 ⟨c, List.mem_of_getElem? h, by simp [hc]⟩, Bool.and_false]
theorem ldB_all {s : ByteArray} (h : ¬ 12 < s.size) (ha : ∀ c ∈ s.data.toList.take s.size, ldD c = true) : ldB s.data.toList = true := by
  unfold ldB
  rw [byte_len, decide_eq_true (by omega)]
  rw [List.take_of_length_le (by rw [byte_len]; exact Nat.le_refl _)] at ha
  rw [List.all_eq_true.2 ha]; rfl

set_option maxHeartbeats 1000000 in
theorem ldGood_any (s : ByteArray) (q : Bool) (hq : ldB s.data.toList = q) (w : World) :
    Calls Try.prog 40 #[.string s] w fun e w' => e = .returned (.bool q) ∧ w = w' := by
  by_cases hbig : 12 < s.size
  · obtain rfl : q = false := hq.symm.trans (ldB_long hbig)
    clear hq
    go_enter Try.func40, Try.ntmps40
    go_wp2
    go_ret
    exact ⟨rfl, rfl⟩
  have HQ := Lib.hid hq
  have HBIG := Lib.hid hbig
  clear hq
  go_enter Try.func40, Try.ntmps40
  go_wp2
  go_loopw [3] (fun i wr => ∃ k : Nat, k ≤ s.size ∧ i = .int .i64 k ∧ wr = w ∧ ∀ c ∈ s.data.toList.take k, ldD c = true) (fun i _ => s.size - (intOf i).toNat)
  case atStart => exact ⟨0, Nat.zero_le _, rfl, rfl, fun c hc => by simp at hc⟩
  case round =>
    obtain ⟨k, hk, rfl, rfl, hall⟩ := hrel
    by_cases hlt : k < s.size
    · obtain ⟨c, hc⟩ := byte_get s hlt
      have hik := byte_at s hc
      have HA := Lib.hid hall
      have HC := Lib.hid hc
      have hb := u8_bd c
      clear hall hc
      by_cases hd : ldD c = true
      · have hin := ldD_true.1 hd
        have HD := Lib.hid hd
        clear hd
        go_wp2_with fail
        refine (l1In_any _ _ _ true (by first | exact inB_true.2 (by omega) | (simp [inB]; omega)) _).mono ?_
        rintro e w' ⟨rfl, rfl⟩
        go_wp2
        go_roundw
        case rel =>
          refine ⟨k + 1, by omega, by go_num, by first | rfl | trivial, fun d hd => ?_⟩
          rw [byte_take HC.out] at hd
          rcases List.mem_append.1 hd with hd | hd
          · exact HA.out d hd
          · rw [List.mem_singleton.1 hd]; exact HD.out
        case measure => simp [intOf]; omega
      · have hd' : ldD c = false := by simpa using hd
        obtain rfl : q = false := HQ.out.symm.trans (ldB_not HC.out hd')
        have hin : ¬ (49 ≤ c.toNat ∧ c.toNat ≤ 57) := fun h => hd (ldD_true.2 h)
        clear hd hd'
        go_wp2_with fail
        refine (l1In_any _ _ _ false (by first | exact inB_false.2 (by omega) | (simp [inB]; omega)) _).mono ?_
        rintro e w' ⟨rfl, rfl⟩
        go_wp2
        go_ret
        exact ⟨rfl, rfl⟩
    · obtain rfl : k = s.size := by omega
      obtain rfl : q = true := HQ.out.symm.trans (ldB_all HBIG.out hall)
      clear hall
      go_wp2
      go_ret
      exact ⟨rfl, rfl⟩

theorem spec_IsLoading (s : ByteArray) (q : Bool) (w : World) (hq : ldB s.data.toList = q) :
    Calls Try.prog 15 #[.string s] w fun e w' => e = .returned (.bool q) ∧ Below w.heap.size w w' := by
  have HC := Lib.hid (ldGood_any s q hq w)
  clear hq
  go_enter Try.func15, Try.ntmps15
  go_wp2_with fail
  refine HC.out.mono ?_
  rintro e w1 ⟨rfl, rfl⟩
  go_wp2
  go_ret
  exact ⟨rfl, Below.refl _ _⟩

theorem iter_below (w : World) (s : ByteArray) (p : Nat) : Below w.heap.size w (w.iter s p) := (Below.refl _ _).alloc (Nat.le_refl _) _

set_option maxHeartbeats 1000000 in
theorem impl_IsLoading (s : ByteArray) (q : Bool) (w : World) (hq : ldB s.data.toList = q) :
    Calls Try.prog 16 #[.string s] w fun e w' => e = .returned (.bool q) ∧ Below w.heap.size w w' := by
  by_cases hbig : 12 < s.size
  · obtain rfl : q = false := hq.symm.trans (ldB_long hbig)
    clear hq
    go_enter Try.func16, Try.ntmps16
    go_wp2
    go_ret
    exact ⟨rfl, Below.refl _ _⟩
  have HQ := Lib.hid hq
  have HBIG := Lib.hid hbig
  clear hq
  go_enter Try.func16, Try.ntmps16
  go_wp2
  go_loopw [] (fun wr => ∃ k : Nat, k ≤ s.size ∧ wr = w.iter s k ∧ ∀ c ∈ s.data.toList.take k, ldD c = true) (fun wr => s.size - wr.iterPos w.heap.size)
  case atStart => exact ⟨0, Nat.zero_le _, rfl, fun c hc => by simp at hc⟩
  case round =>
    obtain ⟨k, hk, rfl, hall⟩ := hrel
    by_cases hlt : k < s.size
    · obtain ⟨c, hc⟩ := byte_get s hlt
      have hik := byte_at s hc hlt
      have HA := Lib.hid hall
      have HC := Lib.hid hc
      clear hall hc
      by_cases ha : c.toNat < 128
      · have hnx : ∀ ty, (Instr.next (.pointer (some ⟨w.heap.size, 0, none⟩)) true ty).run Try.prog (w.iter s k) = _ := fun ty => run_next_ascii w s k ty hlt (by rw [hik]; exact ha)
        simp only [hik] at hnx
        by_cases hd : ldD c = true
        · have hin := ldD_true.1 hd
          have d1 : decide ((c.toNat : Int) < 49) = false := decide_eq_false (by omega)
          have d2 : decide ((c.toNat : Int) > 57) = false := decide_eq_false (by omega)
          have HD := Lib.hid hd
          clear hd
          go_wp2
          go_roundw
          case rel =>
            refine ⟨k + 1, by omega, by first | rfl | trivial, fun d hd => ?_⟩
            rw [byte_take HC.out] at hd
            rcases List.mem_append.1 hd with hd | hd
            · exact HA.out d hd
            · rw [List.mem_singleton.1 hd]; exact HD.out
          case measure => simp; omega
        · have hd' : ldD c = false := by simpa using hd
          obtain rfl : q = false := HQ.out.symm.trans (ldB_not HC.out hd')
          have hin : ¬ (49 ≤ c.toNat ∧ c.toNat ≤ 57) := fun h => hd (ldD_true.2 h)
          clear hd hd'
          by_cases h1 : c.toNat < 49
          · have d1 : decide ((c.toNat : Int) < 49) = true := decide_eq_true (by omega)
            go_wp2
            go_ret
            exact ⟨rfl, iter_below _ _ _⟩
          · have d1 : decide ((c.toNat : Int) < 49) = false := decide_eq_false (by omega)
            have d2 : decide ((c.toNat : Int) > 57) = true := decide_eq_true (by omega)
            go_wp2
            go_ret
            exact ⟨rfl, iter_below _ _ _⟩
      · have hd' : ldD c = false := by simp [ldD]; omega
        obtain rfl : q = false := HQ.out.symm.trans (ldB_not HC.out hd')
        have hhi := (decode_high s k hlt (by rw [hik]; omega)).1
        have hnx : ∀ ty, (Instr.next (.pointer (some ⟨w.heap.size, 0, none⟩)) true ty).run Try.prog (w.iter s k) = _ := fun ty => run_next_any w s k ty hlt
        obtain ⟨r, hr⟩ : ∃ r, (Utf8.decode s k).1 = r := ⟨_, rfl⟩
        obtain ⟨r2, hr2⟩ : ∃ r, (Utf8.decode s k).2 = r := ⟨_, rfl⟩
        simp only [hr, hr2] at hnx hhi
        have d1 : decide ((r : Int) < 49) = false := decide_eq_false (by omega)
        have d2 : decide ((r : Int) > 57) = true := decide_eq_true (by omega)
        clear hr hr2 hd'
        go_wp2
        go_ret
        exact ⟨rfl, iter_below _ _ _⟩
    · obtain rfl : k = s.size := by omega
      obtain rfl : q = true := HQ.out.symm.trans (ldB_all HBIG.out hall)
      have hnx : ∀ ty, (Instr.next (.pointer (some ⟨w.heap.size, 0, none⟩)) true ty).run Try.prog (w.iter s s.size) = _ := fun ty => run_next_end w s s.size ty hlt
      clear hall
      go_wp2
      go_ret
      exact ⟨rfl, iter_below _ _ _⟩
end Go.Proofs.Ytgcljhgpihpfgaa

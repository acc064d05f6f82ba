/-
  The checking program's number of a word: -1 if it is no numeral of one to six digits.
  Conditions: none.
-/
import Derived.Test.YtoheoojpmndhoabDoorTxNum
namespace Go.Proofs.YtoheoojpmndhoabDoor
set_option linter.unusedVariables false
open Go.RowKit

def digB (c : UInt8) : Bool := decide (48 ≤ c.toNat) && decide (c.toNat ≤ 57)
def valL (l : List UInt8) : Int := l.foldl (fun n c => 10 * n + ((c.toNat : Int) - 48)) 0
/-- It is as long as it may be, and has no superfluous zero. -/
def formB (l : List UInt8) : Bool := inB (l.length : Int) 1 6 && !(decide (l[0]? = some 48) && decide (1 < l.length))
def readL (l : List UInt8) : Int := if (formB l && l.all digB) = true then valL l else -1

theorem idx_at (s : ByteArray) {k : Nat} {c : UInt8} (h : s.data.toList[k]? = some c) : ∀ hk : k < s.size, s[k]'hk = c := by
  intro hk
  obtain ⟨hlt, he⟩ := List.getElem?_eq_some_iff.1 h
  rw [← he]
  simp [ByteArray.getElem_eq_getElem_data]

theorem valL_step {l : List UInt8} {k : Nat} {c : UInt8} (h : l[k]? = some c) : valL (l.take (k + 1)) = 10 * valL (l.take k) + ((c.toNat : Int) - 48) := by
  rw [List.take_add_one, h]
  simp [valL]

theorem digB_true {c : UInt8} : digB c = true ↔ 48 ≤ c.toNat ∧ c.toNat ≤ 57 := by simp [digB]

theorem valL_bd (l : List UInt8) (h : ∀ c ∈ l, digB c = true) : 0 ≤ valL l ∧ valL l ≤ 10 ^ l.length := by
  have hgen : ∀ (l : List UInt8) (n : Int), (∀ c ∈ l, digB c = true) → 0 ≤ n → 0 ≤ l.foldl (fun n c => 10 * n + ((c.toNat : Int) - 48)) n ∧ l.foldl (fun n c => 10 * n + ((c.toNat : Int) - 48)) n < (n + 1) * 10 ^ l.length := by
    intro l
    induction l with
    | nil => intro n _ h0; simp; omega
    | cons c l ih =>
      intro n hl h0
      have hc := digB_true.1 (hl c (List.mem_cons_self ..))
      have h1 := ih (10 * n + ((c.toNat : Int) - 48)) (fun d hd => hl d (List.mem_cons_of_mem _ hd)) (by omega)
      rw [List.foldl_cons, List.length_cons]
      refine ⟨h1.1, Int.lt_of_lt_of_le h1.2 ?_⟩
      rw [Int.pow_succ, Int.mul_comm (10 ^ l.length) 10, ← Int.mul_assoc]
      exact Int.mul_le_mul_of_nonneg_right (by omega) (Int.pow_nonneg (by omega))
  have := hgen l 0 h (by omega)
  unfold valL
  omega

theorem valL_small {l : List UInt8} (h : ∀ c ∈ l, digB c = true) (hl : l.length ≤ 6) : 0 ≤ valL l ∧ valL l ≤ 1000000 := by
  have h1 := valL_bd l h
  have h2 : (10 : Int) ^ l.length ≤ 10 ^ 6 := by
    have h3 : (10 : Nat) ^ l.length ≤ 10 ^ 6 := Nat.pow_le_pow_right (by omega) hl
    exact_mod_cast h3
  have h4 : (10 : Int) ^ 6 = 1000000 := rfl
  omega

def RetRead (s : ByteArray) (w : World) (e : Ending) (w' : World) : Prop := e = .returned (.int .i64 (readL s.data.toList)) ∧ w = w'

set_option maxHeartbeats 1000000 in
theorem l1Read_any (s : ByteArray) (w : World) (hmax : s.size ≤ 9223372036854775807) :
    Calls Tryd.prog 39 #[.string s] w (RetRead s w) := by
  have hsl : s.data.toList.length = s.size := by rw [Array.length_toList]; rfl
  by_cases h1 : inB (s.size : Int) 1 6 = true
  · have hb1 := inB_true.1 h1
    obtain ⟨c0, hc0⟩ : ∃ c, s.data.toList[0]? = some c := ⟨_, List.getElem?_eq_getElem (by omega)⟩
    have hi0 := idx_at s hc0
    have hpos : 0 < s.size := by omega
    by_cases hform : formB s.data.toList = true
    · have HF := Lib.hid hform
      have hq : ¬ ((c0.toNat : Int) = 48) ∨ (c0.toNat : Int) = 48 ∧ decide ((s.size : Int) > 1) = false := by
        unfold formB at hform
        rw [hsl, h1, hc0, Bool.true_and] at hform
        by_cases e : c0 = 48
        · subst e
          refine .inr ⟨rfl, ?_⟩
          simp at hform
          simp
          omega
        · refine .inl ?_
          have : c0.toNat ≠ 48 := fun he => e (UInt8.toNat_inj.1 he)
          omega
      clear hform
      rcases hq with hq | ⟨hq, hq2⟩
      all_goals
        go_enter Tryd.func39, Tryd.ntmps39
        go_wp2_with (go_at_call 45; refine (l1In_any _ _ _ true h1 _).mono ?_; rintro e w' ⟨rfl, rfl⟩)
        go_loopw [3, 4] (fun v i wr => ∃ k : Nat, k ≤ s.size ∧ i = .int .i64 k ∧ v = .int .i64 (valL (s.data.toList.take k)) ∧ wr = w ∧ ∀ c ∈ s.data.toList.take k, digB c = true) (fun _ i _ => s.size - (intOf i).toNat)
        case atStart => exact ⟨0, Nat.zero_le _, rfl, rfl, rfl, fun c hc => by simp at hc⟩
        case round =>
          obtain ⟨k, hk, rfl, rfl, rfl, hall⟩ := hrel
          by_cases hlt : k < s.size
          · obtain ⟨c, hc⟩ : ∃ c, s.data.toList[k]? = some c := ⟨_, List.getElem?_eq_getElem (by omega)⟩
            have hik := idx_at s hc
            have HS := Lib.hid (valL_step hc)
            have hbd := valL_small hall (by rw [List.length_take]; omega)
            have hsn : s.data.toList.take (k + 1) = s.data.toList.take k ++ [c] := by rw [List.take_add_one, hc]; rfl
            have HA := Lib.hid hall
            have HC := Lib.hid (List.mem_of_getElem? hc)
            have HSN := Lib.hid hsn
            generalize hV : valL (s.data.toList.take k) = V at *
            have HV := Lib.hid hV
            clear hall hc hsn hV
            by_cases hlo : c.toNat < 48
            · have hd : (s.data.toList.all digB) = false := List.all_eq_false.2 ⟨c, HC.out, by simp [digB]; omega⟩
              have HD := Lib.hid hd
              have hlo' : decide ((c.toNat : Int) < 48) = true := by simp; omega
              clear hd
              go_wp2
              go_ret
              exact ⟨by rw [readL, HD.out, Bool.and_false]; rfl, rfl⟩
            · have hlo' : decide ((c.toNat : Int) < 48) = false := by simp; omega
              by_cases hhi : 57 < c.toNat
              · have hd : (s.data.toList.all digB) = false := List.all_eq_false.2 ⟨c, HC.out, by simp [digB]; omega⟩
                have HD := Lib.hid hd
                have hhi' : decide ((c.toNat : Int) > 57) = true := by simp; omega
                clear hd
                go_wp2
                go_ret
                exact ⟨by rw [readL, HD.out, Bool.and_false]; rfl, rfl⟩
              · have hhi' : decide ((c.toNat : Int) > 57) = false := by simp; omega
                go_wp2
                go_roundw
                case rel =>
                  refine ⟨k + 1, by omega, by go_num, by rw [HS.out]; (try go_num), by first | trivial | rfl, fun d hd => ?_⟩
                  rw [HSN.out] at hd
                  rcases List.mem_append.1 hd with hd | hd
                  · exact HA.out d hd
                  · obtain rfl := List.mem_singleton.1 hd
                    exact digB_true.2 (by omega)
                case measure => simp [intOf]; omega
          · obtain rfl : k = s.size := by omega
            have hta : s.data.toList.take s.size = s.data.toList := List.take_of_length_le (by omega)
            rw [hta] at hall ⊢
            have HD := Lib.hid (show s.data.toList.all digB = true from List.all_eq_true.2 hall)
            clear hall
            go_wp2
            go_ret
            exact ⟨by rw [readL, HF.out, HD.out]; (try rfl), by first | trivial | rfl⟩
    · have hform' : formB s.data.toList = false := by simpa using hform
      have HF := Lib.hid hform'
      have hq : (c0.toNat : Int) = 48 ∧ decide ((s.size : Int) > 1) = true := by
        unfold formB at hform'
        rw [hsl, h1, hc0, Bool.true_and] at hform'
        by_cases e : c0 = 48
        · subst e
          refine ⟨rfl, ?_⟩
          simp at hform'
          simp
          omega
        · simp [e] at hform'
      obtain ⟨hq1, hq2⟩ := hq
      clear hform hform'
      go_enter Tryd.func39, Tryd.ntmps39
      go_wp2_with (go_at_call 45; refine (l1In_any _ _ _ true h1 _).mono ?_; rintro e w' ⟨rfl, rfl⟩)
      go_ret
      exact ⟨by rw [readL, HF.out]; rfl, rfl⟩
  · have h1' : inB (s.size : Int) 1 6 = false := by simpa using h1
    have HF := Lib.hid (show formB s.data.toList = false by unfold formB; rw [hsl, h1', Bool.false_and])
    clear h1
    go_enter Tryd.func39, Tryd.ntmps39
    go_wp2_with (go_at_call 45; refine (l1In_any _ _ _ false h1' _).mono ?_; rintro e w' ⟨rfl, rfl⟩)
    go_ret
    exact ⟨by rw [readL, HF.out]; rfl, rfl⟩
end Go.Proofs.YtoheoojpmndhoabDoor

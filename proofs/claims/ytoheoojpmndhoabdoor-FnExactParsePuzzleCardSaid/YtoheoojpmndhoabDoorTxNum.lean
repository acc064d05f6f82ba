/-
  The decimal numeral of a number, as the checking program and as the library write it; a list's text.
  Conditions: the numbers lie from 0 to 1000000.
-/
import Derived.Test.YtoheoojpmndhoabDoorMem
import Derived.Test.YtoheoojpmndhoabDoorShelf
import Derived.Laws.BytesArg
import Derived.Lib.ItoaMem
import Derived.Lib.ItoaLen
namespace Go.Proofs.YtoheoojpmndhoabDoor
set_option linter.unusedVariables false
open Go.RowKit

/-- The decimal digits of a number. -/
def numS (n : Int) : ByteArray := ⟨(Lib.decDigits n.toNat).toArray⟩

theorem numS_small {n : Int} (h0 : 0 ≤ n) (h : n < 10) : numS n = strOfNums [48 + n] := by
  unfold numS strOfNums
  rw [Lib.decDigits_one (by omega)]
  simp only [List.map_cons, List.map_nil]
  rw [show (48 + n).toNat = 48 + n.toNat by omega]

theorem numS_big {n : Int} (h : 10 ≤ n) : numS n = numS (n / 10) ++ strOfNums [48 + n % 10] := by
  unfold numS strOfNums
  rw [Lib.decDigits, dif_neg (by omega)]
  apply ByteArray.ext
  simp only [List.map_cons, List.map_nil, ByteArray.data_append]
  rw [show (n / 10).toNat = n.toNat / 10 by omega, show (48 + n % 10).toNat = 48 + n.toNat % 10 by omega]
  simp

theorem numS_itoa {n : Int} (h : 0 ≤ n) : (⟨(Lib.itoa n).toArray⟩ : ByteArray) = numS n := by
  unfold numS
  rw [← Lib.itoa_nonneg, Int.toNat_of_nonneg h]

theorem numS_size {n : Int} (h : 0 ≤ n) (h1 : n ≤ 1000000) : (numS n).size ≤ 21 := by
  have := Lib.itoa_length_le n (by omega) (by omega)
  rw [← numS_itoa h]
  simpa [ByteArray.size] using this

theorem add_ok (a b : ByteArray) (h : a.size + b.size ≤ 9223372036854775807) : (a.size + b.size > 9223372036854775807) = False := by simpa using h

/-- The string of one byte in a new block. -/
theorem conv_one (W : World) (z : Int) :
    (convert 73 9 (.slice (some ⟨W.heap.size, 0, none⟩) 1 1)).run Tryd.prog (W.alloc (.cells #[.int .u8 z] 5)) = .ok (.string (strOfNums [z])) (W.alloc (.cells #[.int .u8 z] 5)) :=
  run_convert_bytes_arg (P := Tryd.prog) _ 73 5 Tryd.underlying73 Tryd.underlying5 W.heap.size 0 1 1 [z] rfl (fun i hi => by
    obtain rfl : i = 0 := by omega
    rw [cell_of (new_at W _ rfl)]; rfl) 9 Tryd.underlying9

theorem conv_one2 (W : World) (z : Int) :
    (convert 73 9 (.slice (some ⟨W.heap.size, 0, none⟩) 1 1)).run Tryd.prog (W.alloc (.cells #[.int .u8 z] 5)).drew = .ok (.string (strOfNums [z])) (W.alloc (.cells #[.int .u8 z] 5)).drew :=
  run_convert_bytes_arg (P := Tryd.prog) _ 73 5 Tryd.underlying73 Tryd.underlying5 W.heap.size 0 1 1 [z] rfl (fun i hi => by
    obtain rfl : i = 0 := by omega
    exact (cell_of (new_at W _ rfl) 0)) 9 Tryd.underlying9

theorem conv_below {W w1 : World} {z : Int} (hb : Below (W.alloc (.cells #[.int .u8 z] 5)).heap.size (W.alloc (.cells #[.int .u8 z] 5)) w1) :
    (convert 73 9 (.slice (some ⟨W.heap.size, 0, none⟩) 1 1)).run Tryd.prog w1 = .ok (.string (strOfNums [z])) w1 :=
  run_convert_bytes_arg (P := Tryd.prog) _ 73 5 Tryd.underlying73 Tryd.underlying5 W.heap.size 0 1 1 [z] rfl (fun i hi => by
    obtain rfl : i = 0 := by omega
    rw [cell_of (new_cells hb)]; rfl) 9 Tryd.underlying9

set_option maxRecDepth 100000 in
theorem l1Num_any (m : Nat) : ∀ (n : Int) (w : World), 0 ≤ n → n ≤ 1000000 → n.toNat = m →
    Calls Tryd.prog 30 #[.int .i64 n] w fun e w' => e = .returned (.string (numS n)) ∧ Below w.heap.size w w' := by
  have hconv := conv_one
  have hconv2 := conv_one2
  induction m using Nat.strongRecOn with
  | ind m ih =>
    intro n w h0 h1 hm
    have IH := Lib.hid ih
    clear ih
    by_cases hlt : n < 10
    · have HS := Lib.hid (numS_small h0 hlt)
      go_enter Tryd.func30, Tryd.ntmps30
      go_wp2
      go_ret
      refine ⟨?_, ?_⟩
      · rw [HS.out]; rfl
      · exact (Below.refl _ _).alloc (Nat.le_refl _) _
    · have hge : decide (n < 10) = false := by simpa using hlt
      have hih := fun W : World => IH.out (n / 10).toNat (by omega) (n / 10) W (by omega) (by omega) rfl
      have HQ := Lib.hid (show IntKind.i64.wrap (n.tdiv 10) = n / 10 by rw [Int.tdiv_eq_ediv_of_nonneg h0]; exact IntWalk.i64_in _ (by omega))
      have hadd := fun z : Int => add_ok (numS (n / 10)) (strOfNums [z]) (by have := numS_size (n := n / 10) (by omega) (by omega); rw [strOfNums_size]; simp; omega)
      have HZ := Lib.hid (show IntKind.u8.wrap (IntKind.i64.wrap (48 + n.tmod 10)) = 48 + n % 10 by rw [Int.tmod_eq_emod_of_nonneg h0, IntWalk.i64_in _ (by omega)]; simp [IntKind.wrap, IntKind.bits, IntKind.signed]; omega)
      have HB := Lib.hid (numS_big (by omega : 10 ≤ n))
      go_enter Tryd.func30, Tryd.ntmps30
      go_wp2
      go_region_with (go_at_call 30; rw [HQ.out]; refine (hih _).mono ?_; rintro e w1 ⟨rfl, hb⟩; (try have hcv : (convert 73 9 (.slice (some ⟨w.heap.size, 0, none⟩) 1 1)).run Tryd.prog w1 = .ok (.string (strOfNums [_])) w1 := conv_below (W := w.drew) hb))
      all_goals
        go_wp2
        go_ret
        refine ⟨?_, ?_⟩
        · rw [HB.out, ← HZ.out]; rfl
        · first
            | (have hbu : Below w.heap.size w w1 := undrew hb
               exact hbu.alloc hbu.size _)
            | exact (undrew ((Below.refl _ _).alloc (Nat.le_refl _) _)).trans (hb.mono (by simp))
            | (trace_state; fail)

/-- A list's text: its numerals with a sign between them. -/
def textS (sep : UInt8) : List Int → ByteArray
  | [] => ⟨#[]⟩
  | x :: xs => xs.foldl (fun s y => s ++ (⟨#[sep]⟩ ++ numS y)) (numS x)

def stepS (sep : UInt8) (s : ByteArray) (k : Nat) (y : Int) : ByteArray := (if k = 0 then s else s ++ ⟨#[sep]⟩) ++ numS y

theorem append_nilB (s : ByteArray) : (⟨#[]⟩ : ByteArray) ++ s = s := by apply ByteArray.ext; simp [ByteArray.data_append]
theorem append_assocB (a b c : ByteArray) : a ++ b ++ c = a ++ (b ++ c) := by apply ByteArray.ext; simp [ByteArray.data_append]

theorem textS_step (sep : UInt8) {xs : List Int} {k : Nat} {u : Int} (h : xs[k]? = some u) : textS sep (xs.take (k + 1)) = stepS sep (textS sep (xs.take k)) k u := by
  rw [take_snoc h]
  cases k with
  | zero => simp [textS, stepS, append_nilB]
  | succ k =>
    match xs, h with
    | x :: r, h =>
      simp [textS, stepS, List.foldl_append, append_assocB]

theorem textS_size (sep : UInt8) (xs : List Int) (h : ∀ x ∈ xs, 0 ≤ x ∧ x ≤ 1000000) : (textS sep xs).size ≤ 22 * xs.length := by
  match xs with
  | [] => simp [textS, ByteArray.size]
  | x :: xs =>
    have hgen : ∀ (l : List Int) (s : ByteArray), (∀ x ∈ l, 0 ≤ x ∧ x ≤ 1000000) → (l.foldl (fun s y => s ++ (⟨#[sep]⟩ ++ numS y)) s).size ≤ s.size + 22 * l.length := by
      intro l
      induction l with
      | nil => intro s _; simp
      | cons y l ih =>
        intro s hl
        have h1 := ih (s ++ (⟨#[sep]⟩ ++ numS y)) (fun z hz => hl z (List.mem_cons_of_mem _ hz))
        have h2 := hl y (List.mem_cons_self ..)
        have h3 := numS_size h2.1 h2.2
        rw [ByteArray.size_append, ByteArray.size_append] at h1
        have h4 : (⟨#[sep]⟩ : ByteArray).size = 1 := rfl
        simp only [List.foldl_cons, List.length_cons]
        omega
    have h1 := hgen xs (numS x) (fun z hz => h z (List.mem_cons_of_mem _ hz))
    have h2 := h x (List.mem_cons_self ..)
    have h3 := numS_size h2.1 h2.2
    simp only [textS, List.length_cons]
    omega
end Go.Proofs.YtoheoojpmndhoabDoor

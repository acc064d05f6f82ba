/-
  The library's sort of at most ten numbers.
  Conditions: at most ten numbers.
-/
import Derived.Test.YtjpejhpilfjheaaSortOrd
namespace Go.Proofs.Ytjpejhpilfjheaa
set_option linter.unusedVariables false
set_option linter.unusedSimpArgs false
open Go.RowKit

set_option maxRecDepth 100000 in
theorem len64_0 (w : World) : Calls Try.prog 90 #[.int .u64 0] w fun e w' => (∃ v, e = .returned (.int .i64 v)) ∧ w = w' := by
  go_enter Try.func90, Try.ntmps90
  go_wp2
  go_ret
  exact ⟨⟨_, rfl⟩, rfl⟩
set_option maxRecDepth 100000 in
theorem bitsLen_0 (w : World) : Calls Try.prog 72 #[.int .u64 0] w fun e w' => (∃ v, e = .returned (.int .i64 v)) ∧ w = w' := by
  go_enter Try.func72, Try.ntmps72
  go_wp2_with fail
  refine (len64_0 _).mono ?_
  rintro e w1 ⟨⟨v, rfl⟩, rfl⟩
  go_wp2
  go_ret
  exact ⟨⟨_, rfl⟩, rfl⟩
set_option maxRecDepth 100000 in
theorem len64_1 (w : World) : Calls Try.prog 90 #[.int .u64 1] w fun e w' => (∃ v, e = .returned (.int .i64 v)) ∧ w = w' := by
  go_enter Try.func90, Try.ntmps90
  go_wp2
  go_ret
  exact ⟨⟨_, rfl⟩, rfl⟩
set_option maxRecDepth 100000 in
theorem bitsLen_1 (w : World) : Calls Try.prog 72 #[.int .u64 1] w fun e w' => (∃ v, e = .returned (.int .i64 v)) ∧ w = w' := by
  go_enter Try.func72, Try.ntmps72
  go_wp2_with fail
  refine (len64_1 _).mono ?_
  rintro e w1 ⟨⟨v, rfl⟩, rfl⟩
  go_wp2
  go_ret
  exact ⟨⟨_, rfl⟩, rfl⟩
theorem sort1_any (g T N c : Nat) (bs : List Int) (w : World) (hn : bs.length = 1) (h : Row w g T N bs) :
    Calls Try.prog 51 #[.slice (some ⟨g, 0, none⟩) 1 c] w fun e w' =>
      e = .returned (.tuple #[]) ∧ Row w' g T N (sortG upLt bs) ∧ Only (fun b => b = g) w w' := by
  have HC := Lib.hid (fun lim => pdq_any g T N 1 c bs lim w hn (by omega) (by omega) h)
  clear hn h
  go_enter Try.func51, Try.ntmps51
  go_wp2_with fail
  refine (bitsLen_1 _).mono ?_
  rintro e w1 ⟨⟨v, rfl⟩, rfl⟩
  go_wp2_with fail
  refine (HC.out _).mono ?_
  rintro e w1 ⟨rfl, hrow, honly⟩
  go_wp2
  go_end0
  exact ⟨rfl, hrow, honly⟩
set_option maxRecDepth 100000 in
theorem len64_2 (w : World) : Calls Try.prog 90 #[.int .u64 2] w fun e w' => (∃ v, e = .returned (.int .i64 v)) ∧ w = w' := by
  go_enter Try.func90, Try.ntmps90
  go_wp2
  go_ret
  exact ⟨⟨_, rfl⟩, rfl⟩
set_option maxRecDepth 100000 in
theorem bitsLen_2 (w : World) : Calls Try.prog 72 #[.int .u64 2] w fun e w' => (∃ v, e = .returned (.int .i64 v)) ∧ w = w' := by
  go_enter Try.func72, Try.ntmps72
  go_wp2_with fail
  refine (len64_2 _).mono ?_
  rintro e w1 ⟨⟨v, rfl⟩, rfl⟩
  go_wp2
  go_ret
  exact ⟨⟨_, rfl⟩, rfl⟩
theorem sort2_any (g T N c : Nat) (bs : List Int) (w : World) (hn : bs.length = 2) (h : Row w g T N bs) :
    Calls Try.prog 51 #[.slice (some ⟨g, 0, none⟩) 2 c] w fun e w' =>
      e = .returned (.tuple #[]) ∧ Row w' g T N (sortG upLt bs) ∧ Only (fun b => b = g) w w' := by
  have HC := Lib.hid (fun lim => pdq_any g T N 2 c bs lim w hn (by omega) (by omega) h)
  clear hn h
  go_enter Try.func51, Try.ntmps51
  go_wp2_with fail
  refine (bitsLen_2 _).mono ?_
  rintro e w1 ⟨⟨v, rfl⟩, rfl⟩
  go_wp2_with fail
  refine (HC.out _).mono ?_
  rintro e w1 ⟨rfl, hrow, honly⟩
  go_wp2
  go_end0
  exact ⟨rfl, hrow, honly⟩
set_option maxRecDepth 100000 in
theorem len64_4 (w : World) : Calls Try.prog 90 #[.int .u64 4] w fun e w' => (∃ v, e = .returned (.int .i64 v)) ∧ w = w' := by
  go_enter Try.func90, Try.ntmps90
  go_wp2
  go_ret
  exact ⟨⟨_, rfl⟩, rfl⟩
set_option maxRecDepth 100000 in
theorem bitsLen_4 (w : World) : Calls Try.prog 72 #[.int .u64 4] w fun e w' => (∃ v, e = .returned (.int .i64 v)) ∧ w = w' := by
  go_enter Try.func72, Try.ntmps72
  go_wp2_with fail
  refine (len64_4 _).mono ?_
  rintro e w1 ⟨⟨v, rfl⟩, rfl⟩
  go_wp2
  go_ret
  exact ⟨⟨_, rfl⟩, rfl⟩
theorem sort4_any (g T N c : Nat) (bs : List Int) (w : World) (hn : bs.length = 4) (h : Row w g T N bs) :
    Calls Try.prog 51 #[.slice (some ⟨g, 0, none⟩) 4 c] w fun e w' =>
      e = .returned (.tuple #[]) ∧ Row w' g T N (sortG upLt bs) ∧ Only (fun b => b = g) w w' := by
  have HC := Lib.hid (fun lim => pdq_any g T N 4 c bs lim w hn (by omega) (by omega) h)
  clear hn h
  go_enter Try.func51, Try.ntmps51
  go_wp2_with fail
  refine (bitsLen_4 _).mono ?_
  rintro e w1 ⟨⟨v, rfl⟩, rfl⟩
  go_wp2_with fail
  refine (HC.out _).mono ?_
  rintro e w1 ⟨rfl, hrow, honly⟩
  go_wp2
  go_end0
  exact ⟨rfl, hrow, honly⟩
set_option maxRecDepth 100000 in
theorem len64_5 (w : World) : Calls Try.prog 90 #[.int .u64 5] w fun e w' => (∃ v, e = .returned (.int .i64 v)) ∧ w = w' := by
  go_enter Try.func90, Try.ntmps90
  go_wp2
  go_ret
  exact ⟨⟨_, rfl⟩, rfl⟩
set_option maxRecDepth 100000 in
theorem bitsLen_5 (w : World) : Calls Try.prog 72 #[.int .u64 5] w fun e w' => (∃ v, e = .returned (.int .i64 v)) ∧ w = w' := by
  go_enter Try.func72, Try.ntmps72
  go_wp2_with fail
  refine (len64_5 _).mono ?_
  rintro e w1 ⟨⟨v, rfl⟩, rfl⟩
  go_wp2
  go_ret
  exact ⟨⟨_, rfl⟩, rfl⟩
theorem sort5_any (g T N c : Nat) (bs : List Int) (w : World) (hn : bs.length = 5) (h : Row w g T N bs) :
    Calls Try.prog 51 #[.slice (some ⟨g, 0, none⟩) 5 c] w fun e w' =>
      e = .returned (.tuple #[]) ∧ Row w' g T N (sortG upLt bs) ∧ Only (fun b => b = g) w w' := by
  have HC := Lib.hid (fun lim => pdq_any g T N 5 c bs lim w hn (by omega) (by omega) h)
  clear hn h
  go_enter Try.func51, Try.ntmps51
  go_wp2_with fail
  refine (bitsLen_5 _).mono ?_
  rintro e w1 ⟨⟨v, rfl⟩, rfl⟩
  go_wp2_with fail
  refine (HC.out _).mono ?_
  rintro e w1 ⟨rfl, hrow, honly⟩
  go_wp2
  go_end0
  exact ⟨rfl, hrow, honly⟩
set_option maxRecDepth 100000 in
theorem len64_6 (w : World) : Calls Try.prog 90 #[.int .u64 6] w fun e w' => (∃ v, e = .returned (.int .i64 v)) ∧ w = w' := by
  go_enter Try.func90, Try.ntmps90
  go_wp2
  go_ret
  exact ⟨⟨_, rfl⟩, rfl⟩
set_option maxRecDepth 100000 in
theorem bitsLen_6 (w : World) : Calls Try.prog 72 #[.int .u64 6] w fun e w' => (∃ v, e = .returned (.int .i64 v)) ∧ w = w' := by
  go_enter Try.func72, Try.ntmps72
  go_wp2_with fail
  refine (len64_6 _).mono ?_
  rintro e w1 ⟨⟨v, rfl⟩, rfl⟩
  go_wp2
  go_ret
  exact ⟨⟨_, rfl⟩, rfl⟩
theorem sort6_any (g T N c : Nat) (bs : List Int) (w : World) (hn : bs.length = 6) (h : Row w g T N bs) :
    Calls Try.prog 51 #[.slice (some ⟨g, 0, none⟩) 6 c] w fun e w' =>
      e = .returned (.tuple #[]) ∧ Row w' g T N (sortG upLt bs) ∧ Only (fun b => b = g) w w' := by
  have HC := Lib.hid (fun lim => pdq_any g T N 6 c bs lim w hn (by omega) (by omega) h)
  clear hn h
  go_enter Try.func51, Try.ntmps51
  go_wp2_with fail
  refine (bitsLen_6 _).mono ?_
  rintro e w1 ⟨⟨v, rfl⟩, rfl⟩
  go_wp2_with fail
  refine (HC.out _).mono ?_
  rintro e w1 ⟨rfl, hrow, honly⟩
  go_wp2
  go_end0
  exact ⟨rfl, hrow, honly⟩
set_option maxRecDepth 100000 in
theorem len64_7 (w : World) : Calls Try.prog 90 #[.int .u64 7] w fun e w' => (∃ v, e = .returned (.int .i64 v)) ∧ w = w' := by
  go_enter Try.func90, Try.ntmps90
  go_wp2
  go_ret
  exact ⟨⟨_, rfl⟩, rfl⟩
set_option maxRecDepth 100000 in
theorem bitsLen_7 (w : World) : Calls Try.prog 72 #[.int .u64 7] w fun e w' => (∃ v, e = .returned (.int .i64 v)) ∧ w = w' := by
  go_enter Try.func72, Try.ntmps72
  go_wp2_with fail
  refine (len64_7 _).mono ?_
  rintro e w1 ⟨⟨v, rfl⟩, rfl⟩
  go_wp2
  go_ret
  exact ⟨⟨_, rfl⟩, rfl⟩
theorem sort7_any (g T N c : Nat) (bs : List Int) (w : World) (hn : bs.length = 7) (h : Row w g T N bs) :
    Calls Try.prog 51 #[.slice (some ⟨g, 0, none⟩) 7 c] w fun e w' =>
      e = .returned (.tuple #[]) ∧ Row w' g T N (sortG upLt bs) ∧ Only (fun b => b = g) w w' := by
  have HC := Lib.hid (fun lim => pdq_any g T N 7 c bs lim w hn (by omega) (by omega) h)
  clear hn h
  go_enter Try.func51, Try.ntmps51
  go_wp2_with fail
  refine (bitsLen_7 _).mono ?_
  rintro e w1 ⟨⟨v, rfl⟩, rfl⟩
  go_wp2_with fail
  refine (HC.out _).mono ?_
  rintro e w1 ⟨rfl, hrow, honly⟩
  go_wp2
  go_end0
  exact ⟨rfl, hrow, honly⟩
set_option maxRecDepth 100000 in
theorem len64_8 (w : World) : Calls Try.prog 90 #[.int .u64 8] w fun e w' => (∃ v, e = .returned (.int .i64 v)) ∧ w = w' := by
  go_enter Try.func90, Try.ntmps90
  go_wp2
  go_ret
  exact ⟨⟨_, rfl⟩, rfl⟩
set_option maxRecDepth 100000 in
theorem bitsLen_8 (w : World) : Calls Try.prog 72 #[.int .u64 8] w fun e w' => (∃ v, e = .returned (.int .i64 v)) ∧ w = w' := by
  go_enter Try.func72, Try.ntmps72
  go_wp2_with fail
  refine (len64_8 _).mono ?_
  rintro e w1 ⟨⟨v, rfl⟩, rfl⟩
  go_wp2
  go_ret
  exact ⟨⟨_, rfl⟩, rfl⟩
theorem sort8_any (g T N c : Nat) (bs : List Int) (w : World) (hn : bs.length = 8) (h : Row w g T N bs) :
    Calls Try.prog 51 #[.slice (some ⟨g, 0, none⟩) 8 c] w fun e w' =>
      e = .returned (.tuple #[]) ∧ Row w' g T N (sortG upLt bs) ∧ Only (fun b => b = g) w w' := by
  have HC := Lib.hid (fun lim => pdq_any g T N 8 c bs lim w hn (by omega) (by omega) h)
  clear hn h
  go_enter Try.func51, Try.ntmps51
  go_wp2_with fail
  refine (bitsLen_8 _).mono ?_
  rintro e w1 ⟨⟨v, rfl⟩, rfl⟩
  go_wp2_with fail
  refine (HC.out _).mono ?_
  rintro e w1 ⟨rfl, hrow, honly⟩
  go_wp2
  go_end0
  exact ⟨rfl, hrow, honly⟩
set_option maxRecDepth 100000 in
theorem len64_9 (w : World) : Calls Try.prog 90 #[.int .u64 9] w fun e w' => (∃ v, e = .returned (.int .i64 v)) ∧ w = w' := by
  go_enter Try.func90, Try.ntmps90
  go_wp2
  go_ret
  exact ⟨⟨_, rfl⟩, rfl⟩
set_option maxRecDepth 100000 in
theorem bitsLen_9 (w : World) : Calls Try.prog 72 #[.int .u64 9] w fun e w' => (∃ v, e = .returned (.int .i64 v)) ∧ w = w' := by
  go_enter Try.func72, Try.ntmps72
  go_wp2_with fail
  refine (len64_9 _).mono ?_
  rintro e w1 ⟨⟨v, rfl⟩, rfl⟩
  go_wp2
  go_ret
  exact ⟨⟨_, rfl⟩, rfl⟩
theorem sort9_any (g T N c : Nat) (bs : List Int) (w : World) (hn : bs.length = 9) (h : Row w g T N bs) :
    Calls Try.prog 51 #[.slice (some ⟨g, 0, none⟩) 9 c] w fun e w' =>
      e = .returned (.tuple #[]) ∧ Row w' g T N (sortG upLt bs) ∧ Only (fun b => b = g) w w' := by
  have HC := Lib.hid (fun lim => pdq_any g T N 9 c bs lim w hn (by omega) (by omega) h)
  clear hn h
  go_enter Try.func51, Try.ntmps51
  go_wp2_with fail
  refine (bitsLen_9 _).mono ?_
  rintro e w1 ⟨⟨v, rfl⟩, rfl⟩
  go_wp2_with fail
  refine (HC.out _).mono ?_
  rintro e w1 ⟨rfl, hrow, honly⟩
  go_wp2
  go_end0
  exact ⟨rfl, hrow, honly⟩
set_option maxRecDepth 100000 in
theorem len64_10 (w : World) : Calls Try.prog 90 #[.int .u64 10] w fun e w' => (∃ v, e = .returned (.int .i64 v)) ∧ w = w' := by
  go_enter Try.func90, Try.ntmps90
  go_wp2
  go_ret
  exact ⟨⟨_, rfl⟩, rfl⟩
set_option maxRecDepth 100000 in
theorem bitsLen_10 (w : World) : Calls Try.prog 72 #[.int .u64 10] w fun e w' => (∃ v, e = .returned (.int .i64 v)) ∧ w = w' := by
  go_enter Try.func72, Try.ntmps72
  go_wp2_with fail
  refine (len64_10 _).mono ?_
  rintro e w1 ⟨⟨v, rfl⟩, rfl⟩
  go_wp2
  go_ret
  exact ⟨⟨_, rfl⟩, rfl⟩
theorem sort10_any (g T N c : Nat) (bs : List Int) (w : World) (hn : bs.length = 10) (h : Row w g T N bs) :
    Calls Try.prog 51 #[.slice (some ⟨g, 0, none⟩) 10 c] w fun e w' =>
      e = .returned (.tuple #[]) ∧ Row w' g T N (sortG upLt bs) ∧ Only (fun b => b = g) w w' := by
  have HC := Lib.hid (fun lim => pdq_any g T N 10 c bs lim w hn (by omega) (by omega) h)
  clear hn h
  go_enter Try.func51, Try.ntmps51
  go_wp2_with fail
  refine (bitsLen_10 _).mono ?_
  rintro e w1 ⟨⟨v, rfl⟩, rfl⟩
  go_wp2_with fail
  refine (HC.out _).mono ?_
  rintro e w1 ⟨rfl, hrow, honly⟩
  go_wp2
  go_end0
  exact ⟨rfl, hrow, honly⟩

theorem ins0_any (A : Option Addr) (c : Nat) (w : World) :
    Calls Try.prog 80 #[.slice A 0 c, .int .i64 0, .int .i64 0] w fun e w' => e = .returned (.tuple #[]) ∧ w = w' := by
  go_enter Try.func80, Try.ntmps80
  go_wp2
  go_loopw [6, 7] (fun i _ wr => i = .int .i64 1 ∧ wr = w) (fun _ _ _ => 0)
  case atStart => exact ⟨rfl, rfl⟩
  case round =>
    obtain ⟨rfl, rfl⟩ := hrel
    go_wp2
    go_end0
    exact ⟨rfl, rfl⟩
theorem pdq0_any (A : Option Addr) (c : Nat) (lim : Int) (w : World) :
    Calls Try.prog 71 #[.slice A 0 c, .int .i64 0, .int .i64 0, .int .i64 lim] w fun e w' => e = .returned (.tuple #[]) ∧ w = w' := by
  go_enter Try.func71, Try.ntmps71
  go_wp2
  go_loopw [1, 2, 3, 8, 9] (fun z m l a b wr => z = .int .i64 0 ∧ m = .int .i64 0 ∧ l = .int .i64 lim ∧ a = .bool true ∧ b = .bool true ∧ wr = w) (fun _ _ _ _ _ _ => 0)
  case atStart => exact ⟨rfl, rfl, rfl, rfl, rfl, rfl⟩
  case round =>
    obtain ⟨rfl, rfl, rfl, rfl, rfl, rfl⟩ := hrel
    go_wp2_with fail
    refine (ins0_any A c _).mono ?_
    rintro e w1 ⟨rfl, rfl⟩
    go_wp2
    exact bodyPost_ret (results_none rfl _ _ _) rfl ⟨rfl, rfl⟩
theorem sort0_any (A : Option Addr) (c : Nat) (w : World) :
    Calls Try.prog 51 #[.slice A 0 c] w fun e w' => e = .returned (.tuple #[]) ∧ w = w' := by
  go_enter Try.func51, Try.ntmps51
  go_wp2_with fail
  refine (bitsLen_0 _).mono ?_
  rintro e w1 ⟨⟨v, rfl⟩, rfl⟩
  go_wp2_with fail
  refine (pdq0_any A c _ _).mono ?_
  rintro e w1 ⟨rfl, rfl⟩
  go_wp2
  go_end0
  exact ⟨rfl, rfl⟩
theorem sortN_any (g T N n c : Nat) (bs : List Int) (w : World) (hn : bs.length = n) (h1 : 1 ≤ n) (h10 : n ≤ 10) (h : Row w g T N bs) :
    Calls Try.prog 51 #[.slice (some ⟨g, 0, none⟩) n c] w fun e w' =>
      e = .returned (.tuple #[]) ∧ Row w' g T N (sortG upLt bs) ∧ Only (fun b => b = g) w w' := by
  match n, h1, h10, hn with
  | 1, _, _, hn => exact sort1_any g T N c bs w hn h
  | 2, _, _, hn => exact sort2_any g T N c bs w hn h
  | 3, _, _, hn => exact sort3_any g T N c bs w hn h
  | 4, _, _, hn => exact sort4_any g T N c bs w hn h
  | 5, _, _, hn => exact sort5_any g T N c bs w hn h
  | 6, _, _, hn => exact sort6_any g T N c bs w hn h
  | 7, _, _, hn => exact sort7_any g T N c bs w hn h
  | 8, _, _, hn => exact sort8_any g T N c bs w hn h
  | 9, _, _, hn => exact sort9_any g T N c bs w hn h
  | 10, _, _, hn => exact sort10_any g T N c bs w hn h
/-- What a call has built, as a row that may be written. -/
theorem row_of_owns {w : World} {base T n c : Nat} {A : Option Addr} {ys : List Int} (h : w.ownsRow base T 1 (.slice A n c) n (ys.map (Value.int .i64))) (hn : 0 < n) : ∃ g N, A = some ⟨g, 0, none⟩ ∧ base ≤ g ∧ Row w g T N ys := by
  obtain ⟨hl, h | ⟨g, cap, cur, hv, hg, hb, hnc, _, hs, ht⟩⟩ := h
  · omega
  · injection hv with a1 a2 a3
    refine ⟨g, cur.size, a1, hg, cur, hb, rfl, fun j u hu => ?_⟩
    have hj := (List.getElem?_eq_some_iff.1 hu).1
    have hl' : ys.length = n := by simpa using hl
    have e : cur.toList[j]? = (ys.map (Value.int .i64))[j]? := by
      rw [← ht, List.getElem?_take_of_lt (by omega)]
    rw [← Array.getElem?_toList, e, List.getElem?_map, hu]
    rfl
end Go.Proofs.Ytjpejhpilfjheaa

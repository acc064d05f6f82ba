/-
  Both programs' answers for the worst and the best order.
  Conditions: none.
-/
import Derived.Test.YtgcljhgpihpfgacOrdE
import Derived.Test.YtgcljhgpihpfgacSomeN
namespace Go.Proofs.Ytgcljhgpihpfgac
set_option linter.unusedVariables false
open Go.RowKit Go.Sort

/-- May the orders be asked for? -/
def ordB (xs : List Int) (room : Int) : Bool := askedB xs room && decide (xs.length ≤ 7)
theorem ordB_true {xs : List Int} {room : Int} : ordB xs room = true ↔ askedB xs room = true ∧ xs.length ≤ 7 := by simp [ordB]
/-- A list, a number and a bool are answered. -/
def RetLI (q : Bool) (ys : List Int) (v : Int) (w : World) (e : Ending) (w' : World) : Prop :=
  ∃ A n c, e = .returned (.tuple #[.slice A n c, .int .i64 v, .bool q]) ∧ ys.length = n ∧ Own w' w.heap.size w'.heap.size A ys ∧ Below w.heap.size w w'
theorem BestV.form {w : World} {base : Nat} {v : Value} {ys : List Int} (h : BestV w base v ys) : ∃ A n c, v = .slice A n c ∧ ys.length = n ∧ Own w base w.heap.size A ys := by
  rcases h with ⟨rfl, rfl⟩ | ⟨B, d, rfl, _, h⟩
  · exact ⟨none, 0, 0, rfl, rfl, .inl rfl⟩
  · exact ⟨B, _, d, rfl, rfl, h⟩
theorem BestW.form {w : World} {G : Nat} {v : Value} {ys : List Int} (h : BestW w G v ys) : ∃ A n c, v = .slice A n c ∧ ys.length = n ∧ Own w G w.heap.size A ys := by
  rcases h with ⟨rfl, rfl⟩ | ⟨g, d, rfl, hg, _, h⟩
  · exact ⟨none, 0, 0, rfl, rfl, .inl rfl⟩
  · exact ⟨_, _, d, rfl, rfl, h.own (by omega) h.lt⟩

theorem exE_len {bt : Int → Int → Bool} {room : Int} {n : Nat} : ∀ (ls : List (List Int)) (s : List Int × Int), (∀ l ∈ ls, l.length = n) → s.1.length ≤ n → (ls.foldl (stepE bt room) s).1.length ≤ n
  | [], _, _, h => h
  | l :: ls, s, hl, h => by
    rw [List.foldl_cons]
    refine exE_len ls _ (fun x hx => hl x (by simp [hx])) ?_
    unfold stepE
    split
    · have := hl l (by simp); simp only []; omega
    · exact h
theorem ex_len (bt : Int → Int → Bool) (room : Int) (xs : List Int) : (exE bt room (ordF xs.length xs)).1.length ≤ xs.length :=
  exE_len _ _ (fun l hl => (ordF_perm xs.length rfl l hl).length_eq) (Nat.zero_le _)

theorem extremeOrder_no (f : FuncId) (A : Option Addr) (n c : Nat) (xs : List Int) (room : Int) (lo hi : Nat) (w : World) (hn : xs.length = n) (hlen : n ≤ 1048576) (hs : Seg w lo hi A xs) (hq : ordB xs room = false) :
    Calls Try.prog 24 #[.slice A n c, .int .i64 room, .func (.func f) #[] #[]] w fun e w' => e = .returned (.tuple #[.slice none 0 0, .int .i64 0, .bool false]) ∧ w = w' := by
  obtain ⟨p, hp⟩ : ∃ p, askedB xs room = p := ⟨_, rfl⟩
  have HC := Lib.hid (canBePacked_any A n c xs room lo hi w hn hlen hs p hp)
  cases p with
  | false =>
    clear hn hq hp
    go_enter Try.func24, Try.ntmps24
    go_wp2_with fail
    refine HC.out.mono ?_
    rintro e w1 ⟨rfl, rfl⟩
    go_wp2
    go_ret3
    exact ⟨rfl, rfl⟩
  | true =>
    have h8 : decide ((n : Int) > 7) = true := by
      refine decide_eq_true ?_
      have : ¬ xs.length ≤ 7 := fun h => by rw [ordB_true.2 ⟨hp, h⟩] at hq; cases hq
      omega
    clear hn hq hp
    go_enter Try.func24, Try.ntmps24
    go_wp2_with fail
    refine HC.out.mono ?_
    rintro e w1 ⟨rfl, rfl⟩
    go_wp2
    go_ret3
    exact ⟨rfl, rfl⟩

def exWorstOrder (xs : List Int) (room : Int) : List Int × Int := exE (fun a b => decide (a > b)) room (ordF xs.length xs)
theorem better_WorstOrder (a b : Int) (w : World) : Calls Try.prog 25 #[.int .i64 a, .int .i64 b] w fun e w' => e = .returned (.bool ((fun a b => decide (a > b)) a b)) ∧ w = w' := by
  go_enter Try.func25, Try.ntmps25
  go_wp2
  go_ret
  exact ⟨rfl, rfl⟩
theorem impl_WorstOrder (A : Option Addr) (n c : Nat) (xs : List Int) (room : Int) (lo hi : Nat) (w : World) (hn : xs.length = n) (hlen : n ≤ 1048576) (hs : Seg w lo hi A xs) (hB : hi ≤ w.heap.size) (q : Bool) (hq : ordB xs room = q) (v : Int) (hv : (exWorstOrder xs room).2 = v) :
    Calls Try.prog 9 #[.slice A n c, .int .i64 room] w (RetLI q (someN q (exWorstOrder xs room).1) (if q then v else 0) w) := by
  cases q with
  | false =>
    have HC := Lib.hid (extremeOrder_no 25 A n c xs room lo hi w hn hlen hs hq)
    clear hn hq hv
    go_enter Try.func9, Try.ntmps9
    go_wp2_with fail
    refine HC.out.mono ?_
    rintro e w1 ⟨rfl, rfl⟩
    go_wp2
    go_ret3
    exact ⟨none, 0, 0, rfl, rfl, .inl rfl, Below.refl _ _⟩
  | true =>
    obtain ⟨ha, h7⟩ := ordB_true.1 hq
    have HC := Lib.hid (extremeOrder_yes 25 (fun a b => decide (a > b)) better_WorstOrder (enters_of Try.func25 (by kernel_rfl) rfl) A n c xs room lo hi w hn hs hB ha (by omega))
    have he : exE (fun a b => decide (a > b)) room (ordF n xs) = exWorstOrder xs room := by rw [← hn]; rfl
    rw [he, hv] at HC
    obtain ⟨ys, hys⟩ : ∃ ys, (exWorstOrder xs room).1 = ys := ⟨_, rfl⟩
    rw [hys] at HC
    have HY := Lib.hid (show someN true (exWorstOrder xs room).1 = ys by rw [hys]; rfl)
    clear hn hq hv ha he hys
    go_enter Try.func9, Try.ntmps9
    go_wp2_with fail
    refine HC.out.mono ?_
    rintro e w1 ⟨v1, rfl, hbw, hb⟩
    obtain ⟨A1, n1, c1, rfl, hl1, ho1⟩ := hbw.form
    have HL1 := Lib.hid hl1
    have HO1 := Lib.hid ho1
    clear hbw hl1 ho1
    go_wp2
    go_ret3
    exact ⟨A1, n1, c1, rfl, by rw [HY.out]; exact HL1.out, by rw [HY.out]; exact HO1.out, hb⟩
theorem spec_WorstOrder (A : Option Addr) (n c : Nat) (xs : List Int) (room : Int) (lo hi : Nat) (w : World) (hn : xs.length = n) (hlen : n ≤ 1048576) (hc : n ≤ c) (hs : Seg w lo hi A xs) (hB : hi ≤ w.heap.size) (q : Bool) (hq : ordB xs room = q) (v : Int) (hv : (exWorstOrder xs room).2 = v) :
    Calls Try.prog 7 #[.slice A n c, .int .i64 room] w (RetLI q (someN q (exWorstOrder xs room).1) (if q then v else 0) w) := by
  obtain ⟨p, hp⟩ : ∃ p, askedB xs room = p := ⟨_, rfl⟩
  have HC := Lib.hid (bxAsked_any A n c xs room lo hi w hn hlen hs p hp)
  cases p with
  | false =>
    have hf : q = false := by rw [← hq, ordB, hp]; rfl
    subst hf
    clear hn hq hp hv
    go_enter Try.func7, Try.ntmps7
    go_wp2_with fail
    refine HC.out.mono ?_
    rintro e w1 ⟨rfl, rfl⟩
    go_wp2
    go_ret3
    exact ⟨none, 0, 0, rfl, rfl, .inl rfl, Below.refl _ _⟩
  | true =>
    by_cases h7 : xs.length ≤ 7
    · have hf : q = true := by rw [← hq]; exact ordB_true.2 ⟨hp, h7⟩
      subst hf
      have hd : decide ((n : Int) > 7) = false := decide_eq_false (by omega)
      have HX := Lib.hid (bxExtreme_true A n c xs room lo hi w hn hc hs hB hp (by omega))
      have he : exE (fun a b => decide (a > b)) room (ordF n xs) = exWorstOrder xs room := by rw [← hn]; rfl
      rw [he, hv] at HX
      obtain ⟨ys, hys⟩ : ∃ ys, (exWorstOrder xs room).1 = ys := ⟨_, rfl⟩
      rw [hys] at HX
      have HY := Lib.hid (show someN true (exWorstOrder xs room).1 = ys by rw [hys]; rfl)
      clear hn hq hv hp he hys
      go_enter Try.func7, Try.ntmps7
      go_wp2_with fail
      refine HC.out.mono ?_
      rintro e w1 ⟨rfl, rfl⟩
      go_wp2_with fail
      refine HX.out.mono ?_
      rintro e w1 ⟨v1, rfl, hbw, hb⟩
      obtain ⟨A1, n1, c1, rfl, hl1, ho1⟩ := hbw.form
      have HL1 := Lib.hid hl1
      have HO1 := Lib.hid ho1
      clear hbw hl1 ho1
      go_wp2
      go_ret3
      exact ⟨A1, n1, c1, rfl, by rw [HY.out]; exact HL1.out, by rw [HY.out]; exact HO1.out, hb⟩
    · have hf : q = false := by
        rw [← hq, ordB, hp, decide_eq_false h7]; rfl
      subst hf
      have hd : decide ((n : Int) > 7) = true := decide_eq_true (by omega)
      clear hn hq hp hv
      go_enter Try.func7, Try.ntmps7
      go_wp2_with fail
      refine HC.out.mono ?_
      rintro e w1 ⟨rfl, rfl⟩
      go_wp2
      go_ret3
      exact ⟨none, 0, 0, rfl, rfl, .inl rfl, Below.refl _ _⟩

def exBestOrder (xs : List Int) (room : Int) : List Int × Int := exE (fun a b => decide (a < b)) room (ordF xs.length xs)
theorem better_BestOrder (a b : Int) (w : World) : Calls Try.prog 26 #[.int .i64 a, .int .i64 b] w fun e w' => e = .returned (.bool ((fun a b => decide (a < b)) a b)) ∧ w = w' := by
  go_enter Try.func26, Try.ntmps26
  go_wp2
  go_ret
  exact ⟨rfl, rfl⟩
theorem impl_BestOrder (A : Option Addr) (n c : Nat) (xs : List Int) (room : Int) (lo hi : Nat) (w : World) (hn : xs.length = n) (hlen : n ≤ 1048576) (hs : Seg w lo hi A xs) (hB : hi ≤ w.heap.size) (q : Bool) (hq : ordB xs room = q) (v : Int) (hv : (exBestOrder xs room).2 = v) :
    Calls Try.prog 14 #[.slice A n c, .int .i64 room] w (RetLI q (someN q (exBestOrder xs room).1) (if q then v else 0) w) := by
  cases q with
  | false =>
    have HC := Lib.hid (extremeOrder_no 26 A n c xs room lo hi w hn hlen hs hq)
    clear hn hq hv
    go_enter Try.func14, Try.ntmps14
    go_wp2_with fail
    refine HC.out.mono ?_
    rintro e w1 ⟨rfl, rfl⟩
    go_wp2
    go_ret3
    exact ⟨none, 0, 0, rfl, rfl, .inl rfl, Below.refl _ _⟩
  | true =>
    obtain ⟨ha, h7⟩ := ordB_true.1 hq
    have HC := Lib.hid (extremeOrder_yes 26 (fun a b => decide (a < b)) better_BestOrder (enters_of Try.func26 (by kernel_rfl) rfl) A n c xs room lo hi w hn hs hB ha (by omega))
    have he : exE (fun a b => decide (a < b)) room (ordF n xs) = exBestOrder xs room := by rw [← hn]; rfl
    rw [he, hv] at HC
    obtain ⟨ys, hys⟩ : ∃ ys, (exBestOrder xs room).1 = ys := ⟨_, rfl⟩
    rw [hys] at HC
    have HY := Lib.hid (show someN true (exBestOrder xs room).1 = ys by rw [hys]; rfl)
    clear hn hq hv ha he hys
    go_enter Try.func14, Try.ntmps14
    go_wp2_with fail
    refine HC.out.mono ?_
    rintro e w1 ⟨v1, rfl, hbw, hb⟩
    obtain ⟨A1, n1, c1, rfl, hl1, ho1⟩ := hbw.form
    have HL1 := Lib.hid hl1
    have HO1 := Lib.hid ho1
    clear hbw hl1 ho1
    go_wp2
    go_ret3
    exact ⟨A1, n1, c1, rfl, by rw [HY.out]; exact HL1.out, by rw [HY.out]; exact HO1.out, hb⟩
theorem spec_BestOrder (A : Option Addr) (n c : Nat) (xs : List Int) (room : Int) (lo hi : Nat) (w : World) (hn : xs.length = n) (hlen : n ≤ 1048576) (hc : n ≤ c) (hs : Seg w lo hi A xs) (hB : hi ≤ w.heap.size) (q : Bool) (hq : ordB xs room = q) (v : Int) (hv : (exBestOrder xs room).2 = v) :
    Calls Try.prog 13 #[.slice A n c, .int .i64 room] w (RetLI q (someN q (exBestOrder xs room).1) (if q then v else 0) w) := by
  obtain ⟨p, hp⟩ : ∃ p, askedB xs room = p := ⟨_, rfl⟩
  have HC := Lib.hid (bxAsked_any A n c xs room lo hi w hn hlen hs p hp)
  cases p with
  | false =>
    have hf : q = false := by rw [← hq, ordB, hp]; rfl
    subst hf
    clear hn hq hp hv
    go_enter Try.func13, Try.ntmps13
    go_wp2_with fail
    refine HC.out.mono ?_
    rintro e w1 ⟨rfl, rfl⟩
    go_wp2
    go_ret3
    exact ⟨none, 0, 0, rfl, rfl, .inl rfl, Below.refl _ _⟩
  | true =>
    by_cases h7 : xs.length ≤ 7
    · have hf : q = true := by rw [← hq]; exact ordB_true.2 ⟨hp, h7⟩
      subst hf
      have hd : decide ((n : Int) > 7) = false := decide_eq_false (by omega)
      have HX := Lib.hid (bxExtreme_false A n c xs room lo hi w hn hc hs hB hp (by omega))
      have he : exE (fun a b => decide (a < b)) room (ordF n xs) = exBestOrder xs room := by rw [← hn]; rfl
      rw [he, hv] at HX
      obtain ⟨ys, hys⟩ : ∃ ys, (exBestOrder xs room).1 = ys := ⟨_, rfl⟩
      rw [hys] at HX
      have HY := Lib.hid (show someN true (exBestOrder xs room).1 = ys by rw [hys]; rfl)
      clear hn hq hv hp he hys
      go_enter Try.func13, Try.ntmps13
      go_wp2_with fail
      refine HC.out.mono ?_
      rintro e w1 ⟨rfl, rfl⟩
      go_wp2_with fail
      refine HX.out.mono ?_
      rintro e w1 ⟨v1, rfl, hbw, hb⟩
      obtain ⟨A1, n1, c1, rfl, hl1, ho1⟩ := hbw.form
      have HL1 := Lib.hid hl1
      have HO1 := Lib.hid ho1
      clear hbw hl1 ho1
      go_wp2
      go_ret3
      exact ⟨A1, n1, c1, rfl, by rw [HY.out]; exact HL1.out, by rw [HY.out]; exact HO1.out, hb⟩
    · have hf : q = false := by
        rw [← hq, ordB, hp, decide_eq_false h7]; rfl
      subst hf
      have hd : decide ((n : Int) > 7) = true := decide_eq_true (by omega)
      clear hn hq hp hv
      go_enter Try.func13, Try.ntmps13
      go_wp2_with fail
      refine HC.out.mono ?_
      rintro e w1 ⟨rfl, rfl⟩
      go_wp2
      go_ret3
      exact ⟨none, 0, 0, rfl, rfl, .inl rfl, Below.refl _ _⟩
end Go.Proofs.Ytgcljhgpihpfgac

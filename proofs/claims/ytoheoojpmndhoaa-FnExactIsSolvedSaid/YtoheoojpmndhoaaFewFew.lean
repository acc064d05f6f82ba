/-
  The given program's fewest boxes, the first plan with them, and how many there are.
  Conditions: lists of at most 1048576 numbers.
-/
import Derived.Test.YtoheoojpmndhoaaFewSpec
namespace Go.Proofs.Ytoheoojpmndhoaa
set_option linter.unusedVariables false
open Go.RowKit

theorem plansL_len2 {room : Int} {r pl ls : List Int} {p : List Int × List Int} (h : p ∈ plansL room r pl ls) : p.2.length ≤ ls.length + r.length := by
  induction r generalizing pl ls with
  | nil =>
    obtain rfl := List.mem_singleton.1 h
    simp
  | cons x r ih =>
    rw [plansL] at h
    obtain ⟨b, _, hb⟩ := List.mem_flatMap.1 h
    split at hb
    · have := ih hb
      rw [addTo_length] at this
      simp only [List.length_cons]
      split at this <;> omega
    · cases hb

/-- All plans of some things. -/
def allP (room : Int) (xs : List Int) : List (List Int × List Int) := plansL room xs [] []
/-- Those with the fewest boxes. -/
def bestP (room : Int) (xs : List Int) (m : Nat) : List (List Int × List Int) := (allP room xs).filter fun p => decide (p.2.length ≤ m)

theorem least_bounds {room : Int} {xs : List Int} {m : Nat} (h : Least (allP room xs) m) (h1 : 1 ≤ xs.length) (h9 : xs.length ≤ 9) : 1 ≤ m ∧ m ≤ 9 := by
  obtain ⟨⟨p, hp, hpm⟩, _⟩ := h
  have h2 := plansL_len2 hp
  match xs, h1 with
  | x :: r, _ =>
    unfold allP at hp
    rw [plansL] at hp
    obtain ⟨b, hbr, hb⟩ := List.mem_flatMap.1 hp
    have hb0 : b = 0 := by simpa using hbr
    subst hb0
    split at hb
    · have := (plansL_len hb).1
      rw [addTo_length] at this
      simp at this h2 h9
      omega
    · cases hb

theorem best_pos {room : Int} {xs : List Int} {m : Nat} (h : Least (allP room xs) m) : 0 < (bestP room xs m).length := by
  obtain ⟨⟨p, hp, hpm⟩, _⟩ := h
  exact List.length_pos_of_mem (List.mem_filter.2 ⟨hp, by simp; omega⟩)

theorem less_none {room : Int} {xs : List Int} {m q : Nat} (h : Least (allP room xs) m) (hq : q < m) : plansM room q (xs.drop 0) [] [] = [] := by
  rw [List.drop_zero, plansM_filter (Nat.zero_le _)]
  exact List.filter_eq_nil_iff.2 fun p hp => by have := h.2 p hp; simp; omega
theorem best_eq {room : Int} {xs : List Int} (m : Nat) : plansM room m (xs.drop 0) [] [] = bestP room xs m := by
  rw [List.drop_zero, plansM_filter (Nat.zero_le _)]; rfl

theorem best_len {room : Int} {xs : List Int} {m : Nat} {p : List Int × List Int} (h : (bestP room xs m).head? = some p) : p.1.length = xs.length := by
  have hp : p ∈ bestP room xs m := by
    cases hb : bestP room xs m with
    | nil => rw [hb] at h; cases h
    | cons q r => rw [hb] at h; injection h with h; subst h; exact List.mem_cons_self ..
  have := (plansL_len (List.mem_filter.1 hp).1).2
  simpa using this

theorem best_count {room : Int} {xs : List Int} (m : Nat) (h9 : xs.length ≤ 9) : (bestP room xs m).length ≤ 1000000000 := by
  rw [← best_eq]
  exact plansM_count (Nat.zero_le _) (by simpa using h9)

/-- The fewest, the first plan with them, how many there are. -/
def RetF (m : Nat) (L : List (List Int × List Int)) (w : World) (e : Ending) (w' : World) : Prop :=
  ∃ A n c, e = .returned (.tuple #[.int .i64 (m : Int), .slice A n c, .int .i64 (L.length : Int)]) ∧ FirstR w' w.heap.size w'.heap.size A n L.head? ∧ Below w.heap.size w w'

set_option maxHeartbeats 1000000 in
theorem bxFew_any (A : Option Addr) (n c : Nat) (xs : List Int) (room : Int) (lo hi : Nat) (w : World) (hn : xs.length = n) (hn1 : 1 ≤ n) (hn9 : n ≤ 9) (hx : ∀ x ∈ xs, 1 ≤ x ∧ x ≤ 100 ∧ x ≤ room) (hr : 1 ≤ room ∧ room ≤ 1000)
    (hs : Seg w lo hi A xs) (hB : hi ≤ w.heap.size) (m : Nat) (hm : Least (allP room xs) m) :
    Calls Try.prog 116 #[.slice A n c, .int .i64 room] w (RetF m (bestP room xs m) w) := by
  obtain ⟨hm1, hm9⟩ := least_bounds hm (by omega) (by omega)
  have HN := Lib.hid hn
  have HX := Lib.hid hx
  have HM := Lib.hid hm
  have HC := Lib.hid (best_count (room := room) (xs := xs) m (by omega))
  have HP := Lib.hid (best_pos hm)
  clear hn hx hm
  go_enter Try.func116, Try.ntmps116
  go_wp2_with fail
  go_loopw [7] (fun v wr => ∃ q : Nat, 1 ≤ q ∧ q ≤ m ∧ v = .int .i64 (q : Int) ∧ Below w.heap.size w wr) (fun v _ => m + 1 - (intOf v).toNat)
  case atStart => exact ⟨1, Nat.le_refl _, hm1, rfl, Below.refl _ _⟩
  case round =>
    obtain ⟨q, hq1, hqm, rfl, hb⟩ := hrel
    have hz := hb.size
    by_cases e : q = m
    · subst e
      have hp := HP.out
      have hc := HC.out
      go_wp2_with fail
      refine (bxPlans_any A n c xs room lo hi HN.out hn9 HX.out hr n [] [] q 0 0 0 0 none none 0 0 0 0 _ (by omega) rfl rfl (Nat.le_refl _) (Nat.zero_le _) (by omega) (fun y hy => by cases hy) (hs.below hb hB) (by omega) Seg.nil_ (Nat.zero_le _) Seg.nil_ (Nat.zero_le _)).mono ?_
      rw [best_eq]
      rintro e w1 ⟨F, nf, cf, rfl, hf, hb1⟩
      have hpos : ((bestP room xs q).length : Int) > 0 := by omega
      generalize hL : bestP room xs q = L at *
      have HL := Lib.hid hL
      clear hL
      have HF := Lib.hid (hf.more hz (Nat.le_refl _))
      have HB := Lib.hid (hb.trans (hb1.mono hz))
      clear hf hb1
      go_wp2
      go_ret3
      exact ⟨F, nf, cf, by rw [HL.out]; rfl, by rw [HL.out]; exact HF.out, HB.out⟩
    · go_wp2_with fail
      refine (bxPlans_any A n c xs room lo hi HN.out hn9 HX.out hr n [] [] q 0 0 0 0 none none 0 0 0 0 _ (by omega) rfl rfl (Nat.le_refl _) (Nat.zero_le _) (by omega) (fun y hy => by cases hy) (hs.below hb hB) (by omega) Seg.nil_ (Nat.zero_le _) Seg.nil_ (Nat.zero_le _)).mono ?_
      rw [less_none HM.out (by omega)]
      rintro e w1 ⟨F, nf, cf, rfl, hf, hb1⟩
      clear hf
      go_wp2
      go_roundw
      case rel => exact ⟨q + 1, by omega, by omega, by go_num, hb.trans (hb1.mono hz)⟩
      case measure => simp [intOf]; omega

section
variable (A : Option Addr) (n c : Nat) (xs : List Int) (room : Int) (lo hi : Nat) (w : World) (hn : xs.length = n) (hlen : n ≤ 1048576) (hs : Seg w lo hi A xs) (hB : hi ≤ w.heap.size) (q : Bool) (hq : askedB xs room = q) (m : Nat) (hm : q = true → Least (allP room xs) m)
include hn hlen hs hB hq hm

end
end Go.Proofs.Ytoheoojpmndhoaa

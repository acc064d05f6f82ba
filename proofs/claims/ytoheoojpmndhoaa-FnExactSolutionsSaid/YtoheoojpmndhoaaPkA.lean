/-
  Packings by rules and by plan, and filling: the texts of stage 1 that puzzles want.
  Conditions: each part's own.
-/
import Derived.Test.YtoheoojpmndhoaaNum
import Derived.Test.YtoheoojpmndhoaaMem
import Derived.Deep.RegionLaw
import Derived.Deep.DeepCutAuto
import Derived.Deep.RegionHeld3
import Derived.Test.YtoheoojpmndhoaaAppend
namespace Go.Proofs.Ytoheoojpmndhoaa
set_option linter.unusedVariables false
open Go.RowKit

def allB (xs : List Int) (lo hi : Int) : Bool := xs.all fun x => inB x lo hi

theorem allB_of {xs : List Int} {lo hi : Int} (h : ∀ (k : Nat) u, xs[k]? = some u → inB u lo hi = true) : allB xs lo hi = true := by
  unfold allB
  rw [List.all_eq_true]
  intro x hx
  obtain ⟨k, hk⟩ := List.getElem?_of_mem hx
  exact h k x hk

theorem allB_not {xs : List Int} {lo hi : Int} {k : Nat} {u : Int} (h : xs[k]? = some u) (hu : inB u lo hi = false) : allB xs lo hi = false := by
  unfold allB
  rw [List.all_eq_false]
  exact ⟨u, List.mem_of_getElem? h, by simp [hu]⟩

def RetB (xs : List Int) (lo hi : Int) (w : World) (e : Ending) (w' : World) : Prop := e = .returned (.bool (allB xs lo hi)) ∧ w = w'

set_option maxHeartbeats 400000 in
theorem l1All_ret (A : Option Addr) (n c : Nat) (xs : List Int) (l h : Int) (lo hi : Nat) (w : World) (hn : xs.length = n) (hlen : n ≤ 1048576) (hs : Seg w lo hi A xs) :
    Calls Try.prog 97 #[.slice A n c, .int .i64 l, .int .i64 h] w (RetB xs l h w) := by
  have HN := Lib.hid hn
  clear hn
  go_enter Try.func97, Try.ntmps97
  go_wp2
  go_loop [8, 11] (fun _ i => ∃ k : Nat, k ≤ n ∧ i = .int .i64 k ∧ ∀ j u, j < k → xs[j]? = some u → inB u l h = true) (fun _ i => n - (intOf i).toNat)
  case atStart => exact ⟨0, Nat.zero_le _, rfl, fun j u hj => by omega⟩
  case round =>
    obtain ⟨k, hk, rfl, hall⟩ := hrel
    have HA := Lib.hid hall
    clear hall
    by_cases hlt : k < n
    · obtain ⟨b, off, u, rfl, _, _, hx, hc⟩ := hs.at_ (k := k) (by rw [HN.out]; exact hlt)
      have HX := Lib.hid hx
      clear hx
      by_cases hu : inB u l h = true
      · go_wp2_with (go_at_call 83; refine (l1In_any _ _ _ true hu _).mono ?_; rintro e w' ⟨rfl, rfl⟩)
        go_round
        case rel =>
          refine ⟨k + 1, by omega, by go_num, fun j v hj hv => ?_⟩
          by_cases e : j = k
          · subst e; rw [HX.out] at hv; injection hv with hv; subst hv; exact hu
          · exact HA.out j v (by omega) hv
        case measure => simp [intOf]; omega
      · have hu' : inB u l h = false := by simpa using hu
        clear hu
        go_wp2_with (go_at_call 83; refine (l1In_any _ _ _ false hu' _).mono ?_; rintro e w' ⟨rfl, rfl⟩)
        go_ret
        exact ⟨by rw [allB_not HX.out hu']; rfl, rfl⟩
    · obtain rfl : k = n := by omega
      go_wp2
      go_ret
      refine ⟨?_, rfl⟩
      rw [allB_of fun j u hj => HA.out j u (by rw [← HN.out]; exact (List.getElem?_eq_some_iff.1 hj).1) hj]
      rfl

theorem l1All_any (A : Option Addr) (n c : Nat) (xs : List Int) (l h : Int) (lo hi : Nat) (w : World) (hn : xs.length = n) (hlen : n ≤ 1048576) (hs : Seg w lo hi A xs) (b : Bool) (hb : allB xs l h = b) :
    Calls Try.prog 97 #[.slice A n c, .int .i64 l, .int .i64 h] w fun e w' => e = .returned (.bool b) ∧ w = w' :=
  (l1All_ret A n c xs l h lo hi w hn hlen hs).mono fun _ _ ⟨he, hw⟩ => ⟨by rw [he, hb], hw⟩

end Go.Proofs.Ytoheoojpmndhoaa

namespace Go.Proofs.Ytoheoojpmndhoaa
set_option linter.unusedVariables false
open Go.RowKit

/-- These are things. -/
def goodB (xs : List Int) : Bool := inB (xs.length : Int) 1 9 && allB xs 1 100

theorem goodB_true {xs : List Int} : goodB xs = true ↔ inB (xs.length : Int) 1 9 = true ∧ allB xs 1 100 = true := by simp [goodB]
end Go.Proofs.Ytoheoojpmndhoaa

namespace Go.Proofs.Ytoheoojpmndhoaa
set_option linter.unusedVariables false
open Go.RowKit

def RetG (xs : List Int) (w : World) (e : Ending) (w' : World) : Prop := e = .returned (.bool (goodB xs)) ∧ w = w'

end Go.Proofs.Ytoheoojpmndhoaa

namespace Go.Proofs.Ytoheoojpmndhoaa
set_option linter.unusedVariables false

theorem goodB_at {xs : List Int} (h : goodB xs = true) : 1 ≤ xs.length ∧ xs.length ≤ 9 ∧ ∀ x ∈ xs, 1 ≤ x ∧ x ≤ 100 := by
  obtain ⟨h1, h2⟩ := goodB_true.1 h
  rw [inB_true] at h1
  unfold allB at h2
  rw [List.all_eq_true] at h2
  exact ⟨by omega, by omega, fun x hx => inB_true.1 (h2 x hx)⟩

/-- There are things, and a room that holds the greatest one. -/
def askedB (xs : List Int) (room : Int) : Bool := goodB xs && inB room (mostOf xs) 1000

theorem askedB_true {xs : List Int} {room : Int} : askedB xs room = true ↔ goodB xs = true ∧ mostOf xs ≤ room ∧ room ≤ 1000 := by
  simp [askedB, inB_true]

theorem askedB_at {xs : List Int} {room : Int} (h : askedB xs room = true) :
    1 ≤ xs.length ∧ xs.length ≤ 9 ∧ (∀ x ∈ xs, 1 ≤ x ∧ x ≤ 100 ∧ x ≤ room) ∧ 1 ≤ room ∧ room ≤ 1000 := by
  obtain ⟨h1, h2, h3⟩ := askedB_true.1 h
  obtain ⟨a, b, c⟩ := goodB_at h1
  have hx : ∀ x ∈ xs, 1 ≤ x ∧ x ≤ 100 ∧ x ≤ room := fun x hx => ⟨(c x hx).1, (c x hx).2, Int.le_trans (le_foldl_max hx) h2⟩
  refine ⟨a, b, hx, ?_, h3⟩
  have hm : xs[0]'(by omega) ∈ xs := List.getElem_mem _
  have := hx _ hm
  omega

/-- The box that is picked among the first 'k' ones (-1: none has room): 'n' (110) the last one alone, 'b' (98) the greatest load, 'w' (119) the least, else the first one. -/
def fold (rule room size : Int) (ls : List Int) : Nat → Int
  | 0 => -1
  | k + 1 =>
    if room < ls.getD k 0 + size ∨ (rule = 110 ∧ (k : Int) < (ls.length : Int) - 1) then fold rule room size ls k
    else if fold rule room size ls k < 0 ∨ (rule = 98 ∧ ls.getD (fold rule room size ls k).toNat 0 < ls.getD k 0) ∨ (rule = 119 ∧ ls.getD k 0 < ls.getD (fold rule room size ls k).toNat 0) then (k : Int)
    else fold rule room size ls k

theorem fold_bd (rule room size : Int) (ls : List Int) (k : Nat) : -1 ≤ fold rule room size ls k ∧ fold rule room size ls k < k := by
  induction k with
  | zero => simp [fold]
  | succ k ih =>
    unfold fold
    split
    · omega
    · split <;> omega

theorem fold_skip {rule room size : Int} {ls : List Int} {k : Nat} {l : Int} (hl : ls[k]? = some l) (h : room < l + size ∨ (rule = 110 ∧ (k : Int) < (ls.length : Int) - 1)) :
    fold rule room size ls (k + 1) = fold rule room size ls k := by
  have e : ls.getD k 0 = l := by simp [List.getD, hl]
  rw [fold, e, if_pos h]

theorem fold_keep {rule room size : Int} {ls : List Int} {k : Nat} {l : Int} (hl : ls[k]? = some l) {m : Nat} {lm : Int} (hm : fold rule room size ls k = (m : Int)) (hlm : ls[m]? = some lm)
    (h : ¬ ((rule = 98 ∧ lm < l) ∨ (rule = 119 ∧ l < lm))) : fold rule room size ls (k + 1) = fold rule room size ls k := by
  have e : ls.getD k 0 = l := by simp [List.getD, hl]
  have e2 : ls.getD m 0 = lm := by simp [List.getD, hlm]
  rw [fold, e, hm, Int.toNat_natCast, e2]
  split
  · rfl
  · rw [if_neg]
    rintro (h1 | h1)
    · omega
    · exact h h1

theorem fold_set {rule room size : Int} {ls : List Int} {k : Nat} {l : Int} (hl : ls[k]? = some l) (h : ¬ (room < l + size ∨ (rule = 110 ∧ (k : Int) < (ls.length : Int) - 1))) 
    (h2 : fold rule room size ls k < 0 ∨ ∃ (m : Nat) (lm : Int), fold rule room size ls k = (m : Int) ∧ ls[m]? = some lm ∧ ((rule = 98 ∧ lm < l) ∨ (rule = 119 ∧ l < lm))) : fold rule room size ls (k + 1) = (k : Int) := by
  have e : ls.getD k 0 = l := by simp [List.getD, hl]
  rw [fold, e, if_neg h]
  rcases h2 with h2 | ⟨m, lm, hm, hlm, h2⟩
  · rw [if_pos (Or.inl h2)]
  · have e2 : ls.getD m 0 = lm := by simp [List.getD, hlm]
    rw [hm, Int.toNat_natCast, e2, if_pos (Or.inr h2)]

def pick (rule room size : Int) (ls : List Int) : Nat := if fold rule room size ls ls.length < 0 then ls.length else (fold rule room size ls ls.length).toNat

theorem pick_le (rule room size : Int) (ls : List Int) : pick rule room size ls ≤ ls.length := by
  unfold pick
  have := fold_bd rule room size ls ls.length
  split <;> omega

theorem pick_neg {rule room size : Int} {ls : List Int} (h : fold rule room size ls ls.length < 0) : pick rule room size ls = ls.length := by unfold pick; rw [if_pos h]
theorem pick_pos {rule room size : Int} {ls : List Int} {m : Nat} (h : fold rule room size ls ls.length = (m : Int)) : pick rule room size ls = m := by
  unfold pick; rw [if_neg (by omega), h]; rfl

/-- The last box alone. -/
theorem fold_last {room size : Int} {ls : List Int} {k : Nat} (hk : k + 1 ≤ ls.length) : fold 110 room size ls k = -1 := by
  induction k with
  | zero => rfl
  | succ k ih => rw [fold, if_pos (Or.inr ⟨rfl, by omega⟩), ih (by omega)]

theorem pick_last {room size l : Int} {ls : List Int} {k : Nat} (hk : k + 1 = ls.length) (hl : ls[k]? = some l) : pick 110 room size ls = if l + size ≤ room then k else ls.length := by
  have e : ls.getD k 0 = l := by simp [List.getD, hl]
  have h0 := fold_last (room := room) (size := size) (ls := ls) (k := k) (by omega)
  have h1 : fold 110 room size ls ls.length = if l + size ≤ room then (k : Int) else -1 := by
    rw [← hk, fold, e, h0]
    by_cases h : l + size ≤ room
    · rw [if_neg (by omega), if_pos (by omega), if_pos h]
    · rw [if_pos (by omega), if_neg h]
  by_cases h : l + size ≤ room
  · rw [if_pos h] at h1 ⊢
    exact pick_pos h1
  · rw [if_neg h] at h1 ⊢
    exact pick_neg (by omega)

theorem pick_none (rule room size : Int) : pick rule room size [] = 0 := rfl

/-- The first box that has room. -/
theorem fold_no {rule room size : Int} {ls : List Int} {k : Nat} (h : ∀ (j : Nat) l, j < k → ls[j]? = some l → room < l + size) (hk : k ≤ ls.length) : fold rule room size ls k = -1 := by
  induction k with
  | zero => rfl
  | succ k ih =>
    have hl : ls[k]? = some ls[k] := List.getElem?_eq_getElem (by omega)
    rw [fold_skip hl (Or.inl (h k _ (by omega) hl)), ih (fun j l hj hl' => h j l (by omega) hl') (by omega)]

theorem fold_stays {room size : Int} {ls : List Int} {k q : Nat} (h : fold 102 room size ls k = (q : Int)) (d : Nat) : fold 102 room size ls (k + d) = (q : Int) := by
  induction d with
  | zero => exact h
  | succ d ih =>
    rw [Nat.add_succ, fold, ih]
    split
    · rfl
    · rw [if_neg]
      rintro (h1 | ⟨h1, _⟩ | ⟨h1, _⟩) <;> omega

theorem pick_first {room size l : Int} {ls : List Int} {k : Nat} (h : ∀ (j : Nat) l, j < k → ls[j]? = some l → room < l + size) (hl : ls[k]? = some l) (hf : l + size ≤ room) : pick 102 room size ls = k := by
  have hk := (List.getElem?_eq_some_iff.1 hl).1
  have h0 := fold_no (rule := 102) h (by omega)
  have h1 : fold 102 room size ls (k + 1) = (k : Int) := fold_set hl (by rintro (h | ⟨h, _⟩) <;> omega) (Or.inl (by omega))
  have h2 := fold_stays h1 (ls.length - (k + 1))
  rw [show k + 1 + (ls.length - (k + 1)) = ls.length by omega] at h2
  exact pick_pos h2

theorem pick_first_none {room size : Int} {ls : List Int} (h : ∀ (j : Nat) l, j < ls.length → ls[j]? = some l → room < l + size) : pick 102 room size ls = ls.length :=
  pick_neg (by rw [fold_no h (Nat.le_refl _)]; omega)

/-- The box picked among the first 'k', the next one if none has room. -/
def bestAt (rule room size : Int) (ls : List Int) (k : Nat) : Nat := if fold rule room size ls k < 0 then ls.length else (fold rule room size ls k).toNat

theorem bestAt_zero (rule room size : Int) (ls : List Int) : bestAt rule room size ls 0 = ls.length := rfl
theorem bestAt_all (rule room size : Int) (ls : List Int) : bestAt rule room size ls ls.length = pick rule room size ls := rfl

theorem bestAt_le (rule room size : Int) (ls : List Int) (k : Nat) (hk : k ≤ ls.length) : bestAt rule room size ls k ≤ ls.length := by
  have := fold_bd rule room size ls k
  unfold bestAt
  split <;> omega

theorem bestAt_old {rule room size : Int} {ls : List Int} {k : Nat} (hk : k ≤ ls.length) (h : bestAt rule room size ls k ≠ ls.length) : fold rule room size ls k = (bestAt rule room size ls k : Int) := by
  have := fold_bd rule room size ls k
  unfold bestAt at h ⊢
  split at h
  · exact absurd rfl h
  · next hn => rw [if_neg hn]; omega

theorem bestAt_new {rule room size : Int} {ls : List Int} {k : Nat} (hk : k ≤ ls.length) (h : bestAt rule room size ls k = ls.length) : fold rule room size ls k < 0 := by
  have := fold_bd rule room size ls k
  unfold bestAt at h
  split at h
  · assumption
  · omega

theorem bestAt_skip {rule room size l : Int} {ls : List Int} {k : Nat} (hl : ls[k]? = some l) (h : room < l + size) : bestAt rule room size ls (k + 1) = bestAt rule room size ls k := by
  unfold bestAt
  rw [fold_skip hl (Or.inl h)]

theorem bestAt_set {rule room size l : Int} {ls : List Int} {k : Nat} (hl : ls[k]? = some l) (hr : rule ≠ 110) (h : l + size ≤ room)
    (h2 : bestAt rule room size ls k = ls.length ∨ (rule = 98 ∧ ls.getD (bestAt rule room size ls k) 0 < l) ∨ (rule = 119 ∧ l < ls.getD (bestAt rule room size ls k) 0)) : bestAt rule room size ls (k + 1) = k := by
  have hk := (List.getElem?_eq_some_iff.1 hl).1
  have hf : fold rule room size ls (k + 1) = (k : Int) := by
    refine fold_set hl (by rintro (h | ⟨h, _⟩) <;> omega) ?_
    by_cases hb : bestAt rule room size ls k = ls.length
    · exact Or.inl (bestAt_new (by omega) hb)
    · rcases h2 with h2 | h2
      · exact absurd h2 hb
      · have hle := bestAt_le rule room size ls k (by omega)
        have hlt : bestAt rule room size ls k < ls.length := by omega
        refine Or.inr ⟨_, _, bestAt_old (by omega) hb, List.getElem?_eq_getElem hlt, ?_⟩
        have e : ls.getD (bestAt rule room size ls k) 0 = ls[bestAt rule room size ls k] := by simp [List.getD, hlt]
        rw [e] at h2
        exact h2
  unfold bestAt
  rw [hf, if_neg (by omega)]
  rfl

theorem bestAt_keep {rule room size l : Int} {ls : List Int} {k : Nat} (hl : ls[k]? = some l) (hb : bestAt rule room size ls k ≠ ls.length)
    (h : ¬ ((rule = 98 ∧ ls.getD (bestAt rule room size ls k) 0 < l) ∨ (rule = 119 ∧ l < ls.getD (bestAt rule room size ls k) 0))) : bestAt rule room size ls (k + 1) = bestAt rule room size ls k := by
  have hk := (List.getElem?_eq_some_iff.1 hl).1
  have hle := bestAt_le rule room size ls k (by omega)
  have hlt : bestAt rule room size ls k < ls.length := by omega
  have e : ls.getD (bestAt rule room size ls k) 0 = ls[bestAt rule room size ls k] := by simp [List.getD, hlt]
  rw [e] at h
  have hf := fold_keep hl (bestAt_old (by omega) hb) (List.getElem?_eq_getElem hlt) h
  show (if fold rule room size ls (k + 1) < 0 then _ else _) = _
  rw [hf]
  rfl

/-- A thing goes into box 'b', which may be the next one. -/
def addTo (ls : List Int) (b : Nat) (size : Int) : List Int := if b = ls.length then ls ++ [size] else ls.set b (ls.getD b 0 + size)

theorem addTo_length (ls : List Int) (b : Nat) (size : Int) : (addTo ls b size).length = if b = ls.length then ls.length + 1 else ls.length := by
  unfold addTo
  split <;> simp

/-- What a box that was picked holds is at most the room. -/
theorem fold_fits (rule room size : Int) (ls : List Int) (k : Nat) (h : 0 ≤ fold rule room size ls k) : ls.getD (fold rule room size ls k).toNat 0 + size ≤ room := by
  induction k with
  | zero => simp [fold] at h
  | succ k ih =>
    unfold fold at h ⊢
    split at h
    · next h1 => rw [if_pos h1]; exact ih h
    · next h1 =>
      rw [if_neg h1]
      split at h
      · next h2 =>
        rw [if_pos h2]
        rw [Int.toNat_natCast]
        omega
      · next h2 => rw [if_neg h2]; exact ih h

def Loads (room : Int) (ls : List Int) : Prop := ∀ x ∈ ls, 1 ≤ x ∧ x ≤ room

theorem Loads.add {room size : Int} {ls : List Int} {b : Nat} (h : Loads room ls) (h1 : 1 ≤ size) (h2 : size ≤ room) (hb : b < ls.length → ls.getD b 0 + size ≤ room) : Loads room (addTo ls b size) := by
  intro x hx
  unfold addTo at hx
  split at hx
  · rcases List.mem_append.1 hx with hx | hx
    · exact h x hx
    · simp at hx; omega
  · next hne =>
    rcases List.mem_or_eq_of_mem_set hx with hx | hx
    · exact h x hx
    · rcases Nat.lt_or_ge b ls.length with hlt | hge
      · have := hb hlt
        have hm : ls.getD b 0 ∈ ls := by simp [List.getD, hlt]
        have := (h _ hm).1
        omega
      · have hg : ls.getD b 0 = 0 := by simp [List.getD, hge]
        rw [hg] at hx
        omega

theorem Loads.picked {rule room size : Int} {ls : List Int} (h : Loads room ls) (h1 : 1 ≤ size) (h2 : size ≤ room) : Loads room (addTo ls (pick rule room size ls) size) := by
  refine h.add h1 h2 fun hb => ?_
  unfold pick at hb ⊢
  split
  · next hn => rw [if_pos hn] at hb; omega
  · next hn => exact fold_fits rule room size ls _ (by omega)

theorem Loads.at_ {room : Int} {ls : List Int} (h : Loads room ls) {k : Nat} {u : Int} (hu : ls[k]? = some u) : 1 ≤ u ∧ u ≤ room := h u (List.mem_of_getElem? hu)

/-- Things in an order: the loads, and the box of each thing. -/
def runOrd (rule room : Int) (xs : List Int) : List Nat → List Int × List Int → List Int × List Int
  | [], s => s
  | i :: is, s => runOrd rule room xs is (addTo s.1 (pick rule room (xs.getD i 0) s.1) (xs.getD i 0), s.2.set i (pick rule room (xs.getD i 0) s.1 : Nat))

theorem runOrd_snoc (rule room : Int) (xs : List Int) (is : List Nat) (i : Nat) (s : List Int × List Int) :
    runOrd rule room xs (is ++ [i]) s = (addTo (runOrd rule room xs is s).1 (pick rule room (xs.getD i 0) (runOrd rule room xs is s).1) (xs.getD i 0),
      (runOrd rule room xs is s).2.set i (pick rule room (xs.getD i 0) (runOrd rule room xs is s).1 : Nat)) := by
  induction is generalizing s with
  | nil => rfl
  | cons j js ih => exact ih _

theorem runOrd_step {rule room : Int} {xs : List Int} {is : List Nat} {k i : Nat} {size : Int} {ls pl : List Int} {s0 : List Int × List Int} {b : Nat}
    (h : (ls, pl) = runOrd rule room xs (is.take k) s0) (hi : is[k]? = some i) (hx : xs[i]? = some size) (hb : pick rule room size ls = b) :
    (addTo ls b size, pl.set i (b : Int)) = runOrd rule room xs (is.take (k + 1)) s0 := by
  have e : is.take (k + 1) = is.take k ++ [i] := by
    obtain ⟨hk, rfl⟩ := List.getElem?_eq_some_iff.1 hi
    exact List.take_succ_eq_append_getElem hk
  have ex : xs.getD i 0 = size := by simp [List.getD, hx]
  rw [e, runOrd_snoc, ← h, ex, hb]

theorem addTo_new (ls : List Int) (size : Int) : addTo ls ls.length size = (ls ++ [0]).set ls.length size := by
  unfold addTo
  rw [if_pos rfl, List.set_append_right _ _ (Nat.le_refl _), Nat.sub_self, List.set_cons_zero]

theorem addTo_old {ls : List Int} {b : Nat} {l : Int} (h : ls[b]? = some l) (size : Int) : addTo ls b size = ls.set b (l + size) := by
  unfold addTo
  have hb := (List.getElem?_eq_some_iff.1 h).1
  have e : ls.getD b 0 = l := by simp [List.getD, h]
  rw [if_neg (by omega), e]

theorem runOrd_len (rule room : Int) (xs : List Int) (is : List Nat) (s : List Int × List Int) : (runOrd rule room xs is s).2.length = s.2.length := by
  induction is generalizing s with
  | nil => rfl
  | cons j js ih => rw [runOrd, ih]; simp

theorem runOrd_len1 (rule room : Int) (xs : List Int) (is : List Nat) (s : List Int × List Int) : (runOrd rule room xs is s).1.length ≤ s.1.length + is.length := by
  induction is generalizing s with
  | nil => simp [runOrd]
  | cons j js ih =>
    rw [runOrd]
    refine Nat.le_trans (ih _) ?_
    rw [addTo_length]
    simp only [List.length_cons]
    split <;> omega

theorem runOrd_loads {rule room : Int} {xs : List Int} {is : List Nat} {s : List Int × List Int} (hx : ∀ x ∈ xs, 1 ≤ x ∧ x ≤ 100 ∧ x ≤ room) (hi : ∀ i ∈ is, i < xs.length) (h : Loads room s.1) :
    Loads room (runOrd rule room xs is s).1 := by
  induction is generalizing s with
  | nil => exact h
  | cons j js ih =>
    rw [runOrd]
    have hj : xs.getD j 0 ∈ xs := by
      have := hi j (List.mem_cons_self)
      simp [List.getD, this]
    exact ih (fun i hi' => hi i (List.mem_cons_of_mem _ hi')) (h.picked (hx _ hj).1 (hx _ hj).2.2)

/-- Things as they come: the loads, and the boxes of the things. -/
def run (rule room : Int) : List Int → List Int × List Int → List Int × List Int
  | [], s => s
  | x :: xs, s => run rule room xs (addTo s.1 (pick rule room x s.1) x, s.2 ++ [(pick rule room x s.1 : Int)])

theorem run_snoc (rule room : Int) (xs : List Int) (x : Int) (s : List Int × List Int) :
    run rule room (xs ++ [x]) s = (addTo (run rule room xs s).1 (pick rule room x (run rule room xs s).1) x, (run rule room xs s).2 ++ [(pick rule room x (run rule room xs s).1 : Int)]) := by
  induction xs generalizing s with
  | nil => rfl
  | cons j js ih => exact ih _

theorem run_len (rule room : Int) (xs : List Int) (s : List Int × List Int) : (run rule room xs s).2.length = s.2.length + xs.length := by
  induction xs generalizing s with
  | nil => rfl
  | cons j js ih => rw [run, ih]; simp; omega

theorem run_len1 (rule room : Int) (xs : List Int) (s : List Int × List Int) : (run rule room xs s).1.length ≤ s.1.length + xs.length := by
  induction xs generalizing s with
  | nil => simp [run]
  | cons j js ih =>
    rw [run]
    refine Nat.le_trans (ih _) ?_
    rw [addTo_length]
    simp only [List.length_cons]
    split <;> omega

theorem run_loads {rule room : Int} {xs : List Int} {s : List Int × List Int} (hx : ∀ x ∈ xs, 1 ≤ x ∧ x ≤ 100 ∧ x ≤ room) (h : Loads room s.1) : Loads room (run rule room xs s).1 := by
  induction xs generalizing s with
  | nil => exact h
  | cons x xs ih =>
    rw [run]
    exact ih (fun i hi' => hx i (List.mem_cons_of_mem _ hi')) (h.picked (hx _ List.mem_cons_self).1 (hx _ List.mem_cons_self).2.2)

/-- In their own order both are one. -/
theorem runOrd_run (rule room : Int) (xs : List Int) (k : Nat) (hk : k ≤ xs.length) :
    runOrd rule room xs (List.range k) ([], List.replicate xs.length 0) = ((run rule room (xs.take k) ([], [])).1, (run rule room (xs.take k) ([], [])).2 ++ List.replicate (xs.length - k) 0) := by
  induction k with
  | zero => simp [runOrd, run]
  | succ k ih =>
    have hk' : k < xs.length := hk
    have hx : xs[k]? = some xs[k] := List.getElem?_eq_getElem hk'
    have hg : xs.getD k 0 = xs[k] := by simp [List.getD, hk']
    rw [List.range_succ, runOrd_snoc, ih (by omega), take_snoc hx, run_snoc, hg]
    refine Prod.ext rfl ?_
    show List.set _ k _ = _
    have hl := run_len rule room (xs.take k) ([], [])
    have hlk : (run rule room (xs.take k) ([], [])).2.length = k := by rw [hl]; simp; omega
    obtain ⟨m, hm⟩ : ∃ m, xs.length - k = m + 1 := ⟨xs.length - k - 1, by omega⟩
    rw [hm, List.replicate_succ, List.set_append_right _ _ (by omega), hlk, Nat.sub_self, List.set_cons_zero]
    have : xs.length - (k + 1) = m := by omega
    rw [this]
    simp

theorem runOrd_id (rule room : Int) (xs : List Int) :
    runOrd rule room xs (List.range xs.length) ([], List.replicate xs.length 0) = run rule room xs ([], []) := by
  rw [runOrd_run _ _ _ _ (Nat.le_refl _)]
  simp
end Go.Proofs.Ytoheoojpmndhoaa

namespace Go.Proofs.Ytoheoojpmndhoaa
set_option linter.unusedVariables false
open Go.RowKit

theorem l1Most_any (a b : Int) (w : World) :
    Calls Try.prog 127 #[.int .i64 a, .int .i64 b] w fun e w' => e = .returned (.int .i64 (max a b)) ∧ w = w' := by
  by_cases h : b < a
  · have hm : max a b = a := by omega
    have HM := Lib.hid hm
    clear hm
    go_enter Try.func127, Try.ntmps127
    go_wp2
    go_ret
    exact ⟨by rw [HM.out]; rfl, rfl⟩
  · have hm : max a b = b := by omega
    have HM := Lib.hid hm
    clear hm
    go_enter Try.func127, Try.ntmps127
    go_wp2
    go_ret
    exact ⟨by rw [HM.out]; rfl, rfl⟩

theorem mostOf_take (xs : List Int) {k : Nat} {u : Int} (h : xs[k]? = some u) : max (mostOf (xs.take k)) u = mostOf (xs.take (k + 1)) := by
  rw [take_snoc h, mostOf_snoc]

set_option maxHeartbeats 400000 in
theorem bxMost_any (A : Option Addr) (n c : Nat) (xs : List Int) (lo hi : Nat) (w : World) (hn : xs.length = n) (hlen : n ≤ 1048576) (hs : Seg w lo hi A xs) :
    Calls Try.prog 117 #[.slice A n c] w fun e w' => e = .returned (.int .i64 (mostOf xs)) ∧ w = w' := by
  have HN := Lib.hid hn
  clear hn
  go_enter Try.func117, Try.ntmps117
  go_wp2
  go_loop [3, 5, 8] (fun m _ i => ∃ k : Nat, k ≤ n ∧ i = .int .i64 k ∧ m = .int .i64 (mostOf (xs.take k))) (fun _ _ i => n - (intOf i).toNat)
  case atStart => exact ⟨0, Nat.zero_le _, rfl, rfl⟩
  case round =>
    obtain ⟨k, hk, rfl, rfl⟩ := hrel
    by_cases hlt : k < n
    · obtain ⟨b, off, u, rfl, _, _, hx, hc⟩ := hs.at_ (k := k) (by rw [HN.out]; exact hlt)
      have HM := Lib.hid (mostOf_take xs hx)
      clear hx
      obtain ⟨q, hq⟩ : ∃ q, q = mostOf (xs.take k) := ⟨_, rfl⟩
      rw [← hq] at HM
      rw [← hq]
      clear hq
      go_wp2_with (go_at_call 127; refine (l1Most_any _ _ _).mono ?_; rintro e w' ⟨rfl, rfl⟩)
      go_round
      case rel => exact ⟨k + 1, by omega, by go_num, by rw [HM.out]⟩
      case measure => simp [intOf]; omega
    · obtain rfl : k = n := by omega
      go_wp2
      go_ret
      exact ⟨by rw [← HN.out, List.take_length]; rfl, rfl⟩

theorem mostOf_one {xs : List Int} {u : Int} (h : xs[0]? = some u) (hu : 0 ≤ u) : u = mostOf (xs.take 1) := by
  rw [take_snoc (k := 0) h]
  simp [mostOf]
  omega

set_option maxHeartbeats 400000 in
theorem slicesMax_any (A : Option Addr) (n c : Nat) (xs : List Int) (lo hi : Nat) (w : World) (hn : xs.length = n) (hlen : n ≤ 1048576) (hs : Seg w lo hi A xs) (h1 : 1 ≤ n) (hp : ∀ x ∈ xs, 1 ≤ x ∧ x ≤ 100) :
    Calls Try.prog 112 #[.slice A n c] w fun e w' => e = .returned (.int .i64 (mostOf xs)) ∧ w = w' := by
  have HN := Lib.hid hn
  have HP := Lib.hid hp
  clear hn hp
  obtain ⟨b, off, u0, rfl, _, _, hx0, hc0⟩ := hs.at_ (k := 0) (by rw [HN.out]; exact h1)
  have hu0 := HP.out u0 (List.mem_of_getElem? hx0)
  have HX := Lib.hid (mostOf_one hx0 (by omega))
  clear hx0
  have hc0' : w.cell? ⟨b, off, none⟩ = some (.int .i64 u0) := hc0
  clear hc0
  have hlt1 : (0 : Int) < (n : Int) := by omega
  go_enter Try.func112, Try.ntmps112
  go_wp2
  go_loop [3, 4] (fun m i => ∃ k : Nat, 1 ≤ k ∧ k ≤ n ∧ i = .int .i64 k ∧ m = .int .i64 (mostOf (xs.take k))) (fun _ i => n - (intOf i).toNat)
  case atStart => exact ⟨1, Nat.le_refl _, h1, rfl, by rw [← HX.out]⟩
  case round =>
    obtain ⟨k, hk1, hk, rfl, rfl⟩ := hrel
    by_cases hlt : k < n
    · obtain ⟨b', off', u, hA, _, _, hx, hc⟩ := hs.at_ (k := k) (by rw [HN.out]; exact hlt)
      obtain ⟨rfl, rfl⟩ : b = b' ∧ off = off' := by injection hA with hA; injection hA with h1 h2; exact ⟨h1, h2⟩
      clear hA
      have HM := Lib.hid (mostOf_take xs hx)
      have hu := HP.out u (List.mem_of_getElem? hx)
      clear hx
      obtain ⟨q, hq⟩ : ∃ q, q = mostOf (xs.take k) := ⟨_, rfl⟩
      rw [← hq] at HM
      rw [← hq]
      clear hq
      go_wp2
      go_round
      case rel => exact ⟨k + 1, by omega, by omega, by go_num, by rw [← HM.out]; congr 1; split <;> omega⟩
      case measure => simp [intOf]; omega
    · obtain rfl : k = n := by omega
      go_wp2
      go_ret
      exact ⟨by rw [← HN.out, List.take_length]; rfl, rfl⟩

end Go.Proofs.Ytoheoojpmndhoaa

namespace Go.Proofs.Ytoheoojpmndhoaa
set_option linter.unusedVariables false

/-- One thing more goes into the box that the plan tells, if there is such a box, or it is the next one, and there is room. -/
def stepL (room : Int) (ls : List Int) (b size : Int) : Option (List Int) :=
  if 0 ≤ b ∧ b ≤ ls.length ∧ ls.getD b.toNat 0 + size ≤ room then some (addTo ls b.toNat size) else none

theorem stepL_low {room : Int} {ls : List Int} {b size : Int} (h : b < 0) : stepL room ls b size = none := by unfold stepL; rw [if_neg (by omega)]
theorem stepL_high {room : Int} {ls : List Int} {b size : Int} (h : (ls.length : Int) < b) : stepL room ls b size = none := by unfold stepL; rw [if_neg (by omega)]
theorem stepL_full {room : Int} {ls : List Int} {b : Nat} {size : Int} (h : ¬ ls.getD b 0 + size ≤ room) : stepL room ls (b : Int) size = none := by
  unfold stepL; rw [Int.toNat_natCast, if_neg (by omega)]
theorem stepL_ok {room : Int} {ls : List Int} {b : Nat} {size : Int} (hb : b ≤ ls.length) (h : ls.getD b 0 + size ≤ room) : stepL room ls (b : Int) size = some (addTo ls b size) := by
  unfold stepL; rw [Int.toNat_natCast, if_pos ⟨by omega, by omega, h⟩]

/-- The loads behind the first 'k' things. -/
def foll (room : Int) (xs plan : List Int) : Nat → Option (List Int)
  | 0 => some []
  | k + 1 => (foll room xs plan k).bind fun ls => stepL room ls (plan.getD k 0) (xs.getD k 0)

theorem foll_none {room : Int} {xs plan : List Int} {k : Nat} (h : foll room xs plan k = none) (d : Nat) : foll room xs plan (k + d) = none := by
  induction d with
  | zero => exact h
  | succ d ih => rw [Nat.add_succ, foll, ih]; rfl

theorem foll_fail {room : Int} {xs plan ls : List Int} {k n : Nat} {b size : Int} (h : foll room xs plan k = some ls) (hb : plan[k]? = some b) (hx : xs[k]? = some size) (hs : stepL room ls b size = none) (hk : k < n) :
    foll room xs plan n = none := by
  have e1 : plan.getD k 0 = b := by simp [List.getD, hb]
  have e2 : xs.getD k 0 = size := by simp [List.getD, hx]
  have h1 : foll room xs plan (k + 1) = none := by rw [foll, h, e1, e2]; exact hs
  have h2 := foll_none h1 (n - (k + 1))
  rwa [show k + 1 + (n - (k + 1)) = n by omega] at h2

theorem foll_step {room : Int} {xs plan ls ls' : List Int} {k : Nat} {b size : Int} (h : foll room xs plan k = some ls) (hb : plan[k]? = some b) (hx : xs[k]? = some size) (hs : stepL room ls b size = some ls') :
    foll room xs plan (k + 1) = some ls' := by
  have e1 : plan.getD k 0 = b := by simp [List.getD, hb]
  have e2 : xs.getD k 0 = size := by simp [List.getD, hx]
  rw [foll, h, e1, e2]
  exact hs

theorem foll_loads {room : Int} {xs plan ls : List Int} {k : Nat} (hx : ∀ x ∈ xs, 1 ≤ x ∧ x ≤ 100 ∧ x ≤ room) (hk : k ≤ xs.length) (h : foll room xs plan k = some ls) : Loads room ls ∧ ls.length ≤ k := by
  induction k generalizing ls with
  | zero => simp [foll] at h; subst h; exact ⟨fun x hx => (by cases hx), Nat.le_refl _⟩
  | succ k ih =>
    rw [foll] at h
    rcases hf : foll room xs plan k with _ | l0
    · rw [hf] at h; cases h
    · rw [hf] at h
      obtain ⟨i1, i2⟩ := ih (by omega) hf
      simp only [Option.bind_some] at h
      unfold stepL at h
      split at h
      · next hc =>
        injection h with h
        subst h
        have hxk : xs.getD k 0 ∈ xs := by simp [List.getD, show k < xs.length by omega]
        have hb := hx _ hxk
        refine ⟨i1.add hb.1 hb.2.2 (fun _ => hc.2.2), ?_⟩
        rw [addTo_length]
        split <;> omega
      · cases h

/-- The loads of a plan, if it is one. -/
def loadsM (room : Int) (xs plan : List Int) : Option (List Int) := if plan.length = xs.length then foll room xs plan xs.length else none

theorem loadsM_ne {room : Int} {xs plan : List Int} (h : plan.length ≠ xs.length) : loadsM room xs plan = none := by unfold loadsM; rw [if_neg h]
theorem loadsM_eq {room : Int} {xs plan : List Int} (h : plan.length = xs.length) : loadsM room xs plan = foll room xs plan xs.length := by unfold loadsM; rw [if_pos h]

theorem addTo_at {ls : List Int} {b : Nat} (hb : b ≤ ls.length) (size : Int) : (addTo ls b size)[b]? = some (ls.getD b 0 + size) := by
  unfold addTo
  split
  · next e => subst e; simp [List.getD]
  · have h : b < ls.length := by omega
    rw [List.getElem?_set_self h]
end Go.Proofs.Ytoheoojpmndhoaa

namespace Go.Proofs.Ytoheoojpmndhoaa
set_option linter.unusedVariables false

/-- The first increasing list of things from 'k' on, 'm' being left, that are just 'room' together. -/
def fillM (xs : List Int) : Nat → Nat → Int → Option (List Int)
  | 0, _, room => if room = 0 then some [] else none
  | m + 1, k, room =>
    if room = 0 then some []
    else if xs.getD k 0 ≤ room then
      match fillM xs m (k + 1) (room - xs.getD k 0) with
      | some r => some ((k : Int) :: r)
      | none => fillM xs m (k + 1) room
    else fillM xs m (k + 1) room

theorem fillM_zero (xs : List Int) (m k : Nat) : fillM xs m k 0 = some [] := by cases m <;> rfl
theorem fillM_end (xs : List Int) (k : Nat) {room : Int} (h : room ≠ 0) : fillM xs 0 k room = none := by unfold fillM; rw [if_neg h]
theorem fillM_over {xs : List Int} {m k : Nat} {room x : Int} (h : room ≠ 0) (hx : xs[k]? = some x) (ho : room < x) : fillM xs (m + 1) k room = fillM xs m (k + 1) room := by
  have e : xs.getD k 0 = x := by simp [List.getD, hx]
  rw [fillM, if_neg h, e, if_neg (by omega)]
theorem fillM_no {xs : List Int} {m k : Nat} {room x : Int} (h : room ≠ 0) (hx : xs[k]? = some x) (hf : fillM xs m (k + 1) (room - x) = none) : fillM xs (m + 1) k room = fillM xs m (k + 1) room := by
  have e : xs.getD k 0 = x := by simp [List.getD, hx]
  rw [fillM, if_neg h, e, hf]
  split <;> rfl
theorem fillM_yes {xs r : List Int} {m k : Nat} {room x : Int} (h : room ≠ 0) (hx : xs[k]? = some x) (ho : ¬ room < x) (hf : fillM xs m (k + 1) (room - x) = some r) : fillM xs (m + 1) k room = some ((k : Int) :: r) := by
  have e : xs.getD k 0 = x := by simp [List.getD, hx]
  rw [fillM, if_neg h, e, if_pos (by omega), hf]

theorem fillM_len {xs r : List Int} {m k : Nat} {room : Int} (h : fillM xs m k room = some r) : r.length ≤ m := by
  induction m generalizing k room r with
  | zero =>
    unfold fillM at h
    split at h
    · injection h with h; subst h; simp
    · cases h
  | succ m ih =>
    unfold fillM at h
    split at h
    · injection h with h; subst h; simp
    · split at h
      · split at h
        · next r' hr => injection h with h; subst h; have := ih hr; simp; omega
        · have := ih h; omega
      · have := ih h; omega
end Go.Proofs.Ytoheoojpmndhoaa

namespace Go.Proofs.Ytoheoojpmndhoaa
set_option linter.unusedVariables false
open Go.RowKit

/-- Block 'Bo' holds the boxes 0, 1, .. with the loads 'ls', and has room for 'cap' boxes. -/
def Boxes (w : World) (Bo cap : Nat) (ls : List Int) : Prop :=
  ∃ cs : Array Value, w.heap[Bo]? = some (.cells cs 105 (0, 0)) ∧ cs.size = cap * 2 ∧ ∀ (i : Nat) (l : Int), ls[i]? = some l → cs[i * 2]? = some (.int .i64 (i : Int)) ∧ cs[i * 2 + 1]? = some (.int .i64 l)

/-- Block 'Bp' holds the numbers 'pl', and has room for 'cap'. -/
def Plan (w : World) (Bp cap : Nat) (pl : List Int) : Prop :=
  ∃ cs : Array Value, w.heap[Bp]? = some (.cells cs 3 (0, 0)) ∧ cs.size = cap ∧ ∀ (i : Nat) (b : Int), pl[i]? = some b → cs[i]? = some (.int .i64 b)

def five (Bo Bp cap : Nat) (room : Int) (ls pl : List Int) : List Value :=
  [.int .i64 (ls.length : Int), .int .i64 0, .int .i64 room, .slice (some ⟨Bo, 0, none⟩) ls.length cap, .slice (some ⟨Bp, 0, none⟩) pl.length cap]

/-- A packing at block 'P' (with cells 'rest' behind its own). -/
structure Pk (w : World) (P T Bo Bp cap : Nat) (room : Int) (ls pl : List Int) (rest : List Value) : Prop where
  self : w.heap[P]? = some (.cells ((five Bo Bp cap room ls pl ++ rest).toArray) T (0, 0))
  boxes : Boxes w Bo cap ls
  plan : Plan w Bp cap pl
  ne1 : P ≠ Bo
  ne2 : P ≠ Bp
  ne3 : Bo ≠ Bp
  len1 : ls.length ≤ cap
  len2 : pl.length ≤ cap
  cap9 : cap ≤ 9

section
variable {w w' : World} {P T Bo Bp cap : Nat} {room : Int} {ls pl : List Int} {rest : List Value}

theorem Boxes.lt (h : Boxes w Bo cap ls) : Bo < w.heap.size := by obtain ⟨cs, hb, _⟩ := h; exact heap_lt hb
theorem Plan.lt (h : Plan w Bp cap pl) : Bp < w.heap.size := by obtain ⟨cs, hb, _⟩ := h; exact heap_lt hb
theorem Boxes.keep (h : Boxes w Bo cap ls) (e : w'.heap[Bo]? = w.heap[Bo]?) : Boxes w' Bo cap ls := by obtain ⟨cs, hb, h2⟩ := h; exact ⟨cs, e.trans hb, h2⟩
theorem Plan.keep (h : Plan w Bp cap pl) (e : w'.heap[Bp]? = w.heap[Bp]?) : Plan w' Bp cap pl := by obtain ⟨cs, hb, h2⟩ := h; exact ⟨cs, e.trans hb, h2⟩

theorem Pk.keep (h : Pk w P T Bo Bp cap room ls pl rest) (e : ∀ b, b = P ∨ b = Bo ∨ b = Bp → w'.heap[b]? = w.heap[b]?) : Pk w' P T Bo Bp cap room ls pl rest :=
  ⟨(e P (.inl rfl)).trans h.self, h.boxes.keep (e Bo (.inr (.inl rfl))), h.plan.keep (e Bp (.inr (.inr rfl))), h.ne1, h.ne2, h.ne3, h.len1, h.len2, h.cap9⟩

theorem Pk.lt (h : Pk w P T Bo Bp cap room ls pl rest) : P < w.heap.size ∧ Bo < w.heap.size ∧ Bp < w.heap.size := ⟨heap_lt h.self, h.boxes.lt, h.plan.lt⟩

theorem Pk.below {B : Nat} (h : Pk w P T Bo Bp cap room ls pl rest) (hb : Below B w w') (h1 : P < B) (h2 : Bo < B) (h3 : Bp < B) : Pk w' P T Bo Bp cap room ls pl rest :=
  h.keep fun b hb' => hb.block b (by omega)

theorem Pk.belowAll (h : Pk w P T Bo Bp cap room ls pl rest) (hb : Below w.heap.size w w') : Pk w' P T Bo Bp cap room ls pl rest :=
  h.below hb h.lt.1 h.lt.2.1 h.lt.2.2

theorem Pk.cell (h : Pk w P T Bo Bp cap room ls pl rest) (i : Nat) :
    w.cell? ⟨P, i, none⟩ = (five Bo Bp cap room ls pl ++ rest)[i]? := by
  rw [cell_of_row w P i _ T (0, 0) h.self]
  simp

theorem Pk.frozen (h : Pk w P T Bo Bp cap room ls pl rest) (i : Nat) : w.frozen? ⟨P, i, none⟩ = false := by
  have hs := h.self
  simp [World.frozen?, hs]

theorem Pk.facts (h : Pk w P T Bo Bp cap room ls pl rest) :
    w.cell? ⟨P, 0, none⟩ = some (.int .i64 (ls.length : Int)) ∧ w.cell? ⟨P, 1, none⟩ = some (.int .i64 0) ∧ w.cell? ⟨P, 2, none⟩ = some (.int .i64 room) ∧
      w.cell? ⟨P, 3, none⟩ = some (.slice (some ⟨Bo, 0, none⟩) ls.length cap) ∧ w.cell? ⟨P, 4, none⟩ = some (.slice (some ⟨Bp, 0, none⟩) pl.length cap) :=
  ⟨h.cell 0, h.cell 1, h.cell 2, h.cell 3, h.cell 4⟩

theorem Boxes.at2 (h : Boxes w Bo cap ls) {i : Nat} {l : Int} (hi : ls[i]? = some l) : w.cell? ⟨Bo, i * 2, none⟩ = some (.int .i64 (i : Int)) ∧ w.cell? ⟨Bo, i * 2 + 1, none⟩ = some (.int .i64 l) := by
  obtain ⟨cs, hb, hs, hc⟩ := h
  rw [cell_of_row w Bo _ _ _ (0, 0) hb, cell_of_row w Bo _ _ _ (0, 0) hb]
  exact hc i l hi

theorem Pk.box (h : Pk w P T Bo Bp cap room ls pl rest) {i : Nat} {l : Int} (hi : ls[i]? = some l) : w.cell? ⟨Bo, i * 2, none⟩ = some (.int .i64 (i : Int)) ∧ w.cell? ⟨Bo, i * 2 + 1, none⟩ = some (.int .i64 l) := by
  obtain ⟨cs, hb, hs, hc⟩ := h.boxes
  rw [cell_of_row w Bo _ _ _ (0, 0) hb, cell_of_row w Bo _ _ _ (0, 0) hb]
  exact hc i l hi
end

/-- Box 'b', which may be the next one. -/
def cart (ls : List Int) (b : Nat) : Value := .agg #[.int .i64 (b : Int), .int .i64 (ls.getD b 0)]

theorem cart_at {ls : List Int} {b : Nat} {l : Int} (h : ls[b]? = some l) : cart ls b = .agg #[.int .i64 (b : Int), .int .i64 l] := by simp [cart, List.getD, h]
theorem cart_new (ls : List Int) : cart ls ls.length = .agg #[.int .i64 (ls.length : Int), .int .i64 0] := by simp [cart, List.getD]

/-- It names box 'b', and nothing that was there is written. -/
def Named (ls : List Int) (b : Nat) (w : World) (e : Ending) (w' : World) : Prop := e = .returned (cart ls b) ∧ Below w.heap.size w w'

set_option maxHeartbeats 400000 in
theorem fits_any (P T Bo Bp cap : Nat) (room : Int) (ls pl : List Int) (rest : List Value) (num load size : Int) (w : World) (h : Pk w P T Bo Bp cap room ls pl rest)
    (hl : 0 ≤ load ∧ load ≤ 1000) (hs : 0 ≤ size ∧ size ≤ 100) (b : Bool) (hb : decide (load + size ≤ room) = b) :
    Calls Try.prog 130 #[.pointer (some ⟨P, 0, none⟩), .agg #[.int .i64 num, .int .i64 load], .int .i64 size] w fun e w' => e = .returned (.bool b) ∧ Below w.heap.size w w' := by
  obtain ⟨f0, f1, f2, f3, f4⟩ := h.facts
  have hP := h.lt.1
  cases b
  all_goals
    go_enter Try.func130, Try.ntmps130
    go_wp2
    go_quiet (fail)
    go_outline
    go_wp2
    go_ret
    exact ⟨rfl, below_drewN ((Below.refl _ _).alloc (Nat.le_refl _) _) _⟩
end Go.Proofs.Ytoheoojpmndhoaa

namespace Go.Proofs.Ytoheoojpmndhoaa
set_option linter.unusedVariables false
open Go.RowKit

section
variable {w w' : World} {P T Bo Bp cap : Nat} {room : Int} {ls pl : List Int} {rest : List Value}

theorem Pk.alloc (h : Pk w P T Bo Bp cap room ls pl rest) (o : Obj) : Pk (w.alloc o) P T Bo Bp cap room ls pl rest :=
  h.belowAll ((Below.refl _ _).alloc (Nat.le_refl _) _)

theorem Pk.drewN (h : Pk w P T Bo Bp cap room ls pl rest) (n : Nat) : Pk (w.drewN n) P T Bo Bp cap room ls pl rest := h.keep fun _ _ => rfl
theorem Pk.drew (h : Pk w P T Bo Bp cap room ls pl rest) : Pk w.drew P T Bo Bp cap room ls pl rest := h.keep fun _ _ => rfl

theorem Boxes.set (h : Boxes w Bo cap ls) {b : Nat} {l : Int} (hl : ls[b]? = some l) (l' : Int) : Boxes (w.setCell ⟨Bo, b * 2 + 1, none⟩ (.int .i64 l')) Bo cap (ls.set b l') := by
  obtain ⟨cs, hb, hs, hc⟩ := h
  refine ⟨cs.setIfInBounds (b * 2 + 1) (.int .i64 l'), set_self hb _ _, by simpa using hs, fun i li hi => ?_⟩
  have hbs := (Array.getElem?_eq_some_iff.1 (hc b l hl).2).1
  by_cases e : i = b
  · subst e
    have hl' := (List.getElem?_eq_some_iff.1 hl).1
    rw [List.getElem?_set_self hl'] at hi
    injection hi with hi
    subst hi
    exact ⟨by rw [Array.getElem?_setIfInBounds_ne (by omega)]; exact (hc i l hl).1, by rw [Array.getElem?_setIfInBounds_self_of_lt hbs]⟩
  · rw [List.getElem?_set_ne (by omega)] at hi
    exact ⟨by rw [Array.getElem?_setIfInBounds_ne (by omega)]; exact (hc i li hi).1, by rw [Array.getElem?_setIfInBounds_ne (by omega)]; exact (hc i li hi).2⟩

theorem Boxes.push (h : Boxes w Bo cap ls) (hcap : ls.length < cap) (l : Int) :
    Boxes ((w.setCell ⟨Bo, ls.length * 2, none⟩ (.int .i64 (ls.length : Int))).setCell ⟨Bo, ls.length * 2 + 1, none⟩ (.int .i64 l)) Bo cap (ls ++ [l]) := by
  obtain ⟨cs, hb, hs, hc⟩ := h
  refine ⟨_, set_self (set_self hb _ _) _ _, by simpa using hs, fun i li hi => ?_⟩
  by_cases e : i = ls.length
  · subst e
    simp at hi
    subst hi
    exact ⟨by rw [Array.getElem?_setIfInBounds_ne (by omega), Array.getElem?_setIfInBounds_self_of_lt (by omega)], by rw [Array.getElem?_setIfInBounds_self_of_lt (by simp; omega)]⟩
  · have hlt : i < ls.length := by
      have := (List.getElem?_eq_some_iff.1 hi).1
      simp at this
      omega
    rw [List.getElem?_append_left hlt] at hi
    exact ⟨by rw [Array.getElem?_setIfInBounds_ne (by omega), Array.getElem?_setIfInBounds_ne (by omega)]; exact (hc i li hi).1,
      by rw [Array.getElem?_setIfInBounds_ne (by omega), Array.getElem?_setIfInBounds_ne (by omega)]; exact (hc i li hi).2⟩

theorem Plan.push (h : Plan w Bp cap pl) (hcap : pl.length < cap) (b : Int) : Plan (w.setCell ⟨Bp, pl.length, none⟩ (.int .i64 b)) Bp cap (pl ++ [b]) := by
  obtain ⟨cs, hb, hs, hc⟩ := h
  refine ⟨_, set_self hb _ _, by simpa using hs, fun i bi hi => ?_⟩
  by_cases e : i = pl.length
  · subst e
    simp at hi
    subst hi
    rw [Array.getElem?_setIfInBounds_self_of_lt (by omega)]
  · have hlt : i < pl.length := by
      have := (List.getElem?_eq_some_iff.1 hi).1
      simp at this
      omega
    rw [List.getElem?_append_left hlt] at hi
    rw [Array.getElem?_setIfInBounds_ne (by omega)]
    exact hc i bi hi

/-- A new box is opened. -/
theorem Pk.open_ (h : Pk w P T Bo Bp cap room ls pl rest) (hcap : ls.length < cap) :
    Pk ((((w.setCell ⟨Bo, ls.length * 2, none⟩ (.int .i64 (ls.length : Int))).setCell ⟨Bo, ls.length * 2 + 1, none⟩ (.int .i64 0)).setCell ⟨P, 3, none⟩ (.slice (some ⟨Bo, 0, none⟩) (ls.length + 1) cap)).setCell ⟨P, 0, none⟩ (.int .i64 ((ls.length : Int) + 1)))
      P T Bo Bp cap room (ls ++ [0]) pl rest := by
  have n1 := h.ne1
  have n2 := h.ne2
  have n3 := h.ne3
  have ha := h
  refine ⟨?_, ?_, ?_, n1, n2, n3, by simp; omega, h.len2, h.cap9⟩
  · have e : ((ls ++ [0]).length : Int) = (ls.length : Int) + 1 := by simp
    rw [set_self (set_self ((set_far _ (by exact n1) _).trans ((set_far _ (by exact n1) _).trans ha.self)) _ _) _ _]
    simp [five]
  · exact ((ha.boxes.push hcap 0).keep (set_far _ (by exact Ne.symm n1) _)).keep (set_far _ (by exact Ne.symm n1) _)
  · exact (((ha.plan.keep (set_far _ (by exact Ne.symm n3) _)).keep (set_far _ (by exact Ne.symm n3) _)).keep (set_far _ (by exact Ne.symm n2) _)).keep (set_far _ (by exact Ne.symm n2) _)

/-- A box holds more. -/
theorem Pk.load (h : Pk w P T Bo Bp cap room ls pl rest) {b : Nat} {l : Int} (hl : ls[b]? = some l) (l' : Int) : Pk (w.setCell ⟨Bo, b * 2 + 1, none⟩ (.int .i64 l')) P T Bo Bp cap room (ls.set b l') pl rest := by
  have n1 := h.ne1
  have n3 := h.ne3
  refine ⟨?_, h.boxes.set hl l', h.plan.keep (set_far _ (by exact Ne.symm n3) _), n1, h.ne2, n3, by simpa using h.len1, h.len2, h.cap9⟩
  rw [set_far _ (by exact n1) _, h.self]
  simp [five]

/-- The plan goes on. -/
theorem Pk.go_on (h : Pk w P T Bo Bp cap room ls pl rest) (hcap : pl.length < cap) (b : Int) :
    Pk ((w.setCell ⟨Bp, pl.length, none⟩ (.int .i64 b)).setCell ⟨P, 4, none⟩ (.slice (some ⟨Bp, 0, none⟩) (pl.length + 1) cap)) P T Bo Bp cap room ls (pl ++ [b]) rest := by
  have n1 := h.ne1
  have n2 := h.ne2
  have n3 := h.ne3
  have ha := h
  refine ⟨?_, ?_, ?_, n1, n2, n3, h.len1, by simp; omega, h.cap9⟩
  · rw [set_self ((set_far _ (by exact n2) _).trans ha.self) _ _]
    simp [five]
  · exact (ha.boxes.keep (set_far _ (by exact n3) _)).keep (set_far _ (by exact Ne.symm n1) _)
  · exact (ha.plan.push hcap b).keep (set_far _ (by exact Ne.symm n2) _)

theorem Pk.spareBox (h : Pk w P T Bo Bp cap room ls pl rest) (hcap : ls.length < cap) : ∀ j, j < 2 → (w.cell? ⟨Bo, ls.length * 2 + j, none⟩).isSome = true ∧ w.frozen? ⟨Bo, ls.length * 2 + j, none⟩ = false := by
  obtain ⟨cs, hb, hs, hc⟩ := h.boxes
  intro j hj
  rw [cell_of hb, frozen_of hb, Array.getElem?_eq_getElem (by omega)]
  exact ⟨rfl, rfl⟩

theorem Pk.sparePlan (h : Pk w P T Bo Bp cap room ls pl rest) (hcap : pl.length < cap) : ∀ j, j < 1 → (w.cell? ⟨Bp, pl.length + j, none⟩).isSome = true ∧ w.frozen? ⟨Bp, pl.length + j, none⟩ = false := by
  obtain ⟨cs, hb, hs, hc⟩ := h.plan
  intro j hj
  rw [cell_of hb, frozen_of hb, Array.getElem?_eq_getElem (by omega)]
  exact ⟨rfl, rfl⟩

theorem Pk.boxFree (h : Pk w P T Bo Bp cap room ls pl rest) (i : Nat) : w.frozen? ⟨Bo, i, none⟩ = false := by
  obtain ⟨cs, hb, hs, hc⟩ := h.boxes
  exact frozen_of hb i
end

theorem carton_info : (Try.prog.info? 105).map (fun i => (i.zero, i.size, i.bytes)) = some (some (.agg #[.int .i64 0, .int .i64 0]), 2, 16) := by kernel_rfl

/-- The three blocks of a packing. -/
def Three (P Bo Bp : Nat) (k : Nat) : Prop := k = P ∨ k = Bo ∨ k = Bp

/-- What 'put' leaves. -/
def Put_ (P T Bo Bp cap : Nat) (room : Int) (ls pl : List Int) (rest : List Value) (w : World) (e : Ending) (w' : World) : Prop :=
  e = .returned (.tuple #[]) ∧ Pk w' P T Bo Bp cap room ls pl rest ∧ Only (Three P Bo Bp) w w'

theorem two_new (w : World) (u v : Value) (T : Nat) : ∀ (j : Nat) (x : Value), [u, v][j]? = some x → (w.alloc (.cells #[u, v] T)).cell? ((⟨w.heap.size, 0, none⟩ : Addr).add j) = some x := by
  intro j x hj
  match j, hj with
  | 0, hj => simp at hj; subst hj; simp [Addr.add]
  | 1, hj => simp at hj; subst hj; simp [Addr.add]

set_option maxHeartbeats 2000000 in
set_option maxRecDepth 100000 in
theorem put_new (P T Bo Bp cap : Nat) (room : Int) (ls pl : List Int) (rest : List Value) (size : Int) (w : World) (h : Pk w P T Bo Bp cap room ls pl rest)
    (hs : 1 ≤ size ∧ size ≤ 100) (hc1 : ls.length < cap) (hc2 : pl.length < cap) :
    Calls Try.prog 129 #[.pointer (some ⟨P, 0, none⟩), .agg #[.int .i64 (ls.length : Int), .int .i64 0], .int .i64 size] w (Put_ P T Bo Bp cap room (ls ++ [size]) (pl ++ [((ls.length : Int) : Int)]) rest w) := by
  obtain ⟨i0, hi, hz0, hz1, hz2⟩ := info_parts carton_info
  obtain ⟨j0, hj, hj0, hj1, hj2⟩ := info_parts int_info
  have hk := h.alloc (.cells #[.int .i64 (ls.length : Int), .int .i64 0] 105)
  have hsp := (hk.alloc (.cells #[.int .i64 (ls.length : Int), .int .i64 0] 105)).spareBox hc1
  have HSP := Lib.hid hsp
  obtain ⟨f0, f1, f2, f3, f4⟩ := hk.facts
  have z0 := hk.frozen 0
  have z3 := hk.frozen 3
  obtain ⟨hP, hBo, hBp⟩ := h.lt
  have hPB : ¬ P = Bo := h.ne1
  have h9 := h.cap9
  have HK := Lib.hid hk
  have hl := h.len1
  have hw0 : ¬ w.heap.size = P := by omega
  have hwB : ¬ w.heap.size = Bo := by omega
  clear hsp hk h
  go_enter Try.func129, Try.ntmps129
  go_wp2
  go_quiet (fail)
  go_upto_if 11 with (fail)
  go_cut [] (fun wx => Pk wx P T Bo Bp cap room (ls ++ [0]) pl rest ∧ wx.heap[w.heap.size]? = some (.cells #[.int .i64 (ls.length : Int), .int .i64 0] 105 (0, 0)) ∧ Only (Three P Bo Bp) w wx)
  case first =>
    go_wp2
    go_region_law (refine step_append_room rfl (.tmp 16) (.tmp 18) 106 rfl 105 i0 2 Try.underlying106 hi hz1 Bo 0 ls.length cap (by simp [Act.eval]) ⟨w.heap.size + 1, 0, none⟩ 1 1 [.int .i64 (ls.length : Int), .int .i64 0] (by simp [Act.eval]) rfl (by intro j x hj; match j, hj with | 0, hj => (simp at hj; subst hj; go_simp) | 1, hj => (simp at hj; subst hj; go_simp)) (by intro x hx; simp at hx; rcases hx with rfl | rfl <;> rfl) (by omega) (by intro j hj; rw [Nat.zero_add]; exact HSP.out j hj) ?_; simp only [World.setCells])
    all_goals go_wp2
    all_goals go_meet
    all_goals exact ⟨((HK.out.drewN _).open_ hc1).alloc _, (alloc_old _ (by simp) _).trans ((set_far _ (by exact hw0) _).trans ((set_far _ (by exact hw0) _).trans ((set_far _ (by exact hwB) _).trans ((set_far _ (by exact hwB) _).trans (heap_alloc_new w _))))),
      (((((((Only.refl _ _).alloc _).drewN _).setCell (p := ⟨Bo, ls.length * 2, none⟩) (Or.inr (Or.inl rfl)) _).setCell (p := ⟨Bo, ls.length * 2 + 1, none⟩) (Or.inr (Or.inl rfl)) _).setCell (p := ⟨P, 3, none⟩) (Or.inl rfl) _).setCell (p := ⟨P, 0, none⟩) (Or.inl rfl) _).alloc _⟩
  case rest =>
    obtain ⟨hq, hbox, honly⟩ := hcut
    obtain ⟨ls1, hls1⟩ : ∃ ls1, ls1 = ls ++ [0] := ⟨_, rfl⟩
    have hL : ls1[ls.length]? = some 0 := by rw [hls1]; simp
    rw [← hls1] at hq
    have HLS := Lib.hid (show ls1.set ls.length size = ls ++ [size] by rw [hls1, List.set_append_right _ _ (Nat.le_refl _), Nat.sub_self, List.set_cons_zero])
    clear hls1
    clear f0 f1 f2 f3 f4 z0 z3
    have hql := hq.len1
    have hq9 := hq.cap9
    have v0 := cell_of hbox 0
    have v1 := cell_of hbox 1
    simp at v0 v1
    obtain ⟨f0, f1, f2, f3, f4⟩ := hq.facts
    have bf := hq.boxFree (ls.length * 2 + 1)
    obtain ⟨k0, k1⟩ := hq.box hL
    have hLl := (List.getElem?_eq_some_iff.1 hL).1
    have HL := Lib.hid hL
    have HQ := Lib.hid hq
    have HBX := Lib.hid hbox
    clear hq hbox hL
    go_upto_region 4 with (fail)
    go_cut [] (fun wx => Pk wx P T Bo Bp cap room (ls1.set (ls.length) size) pl rest ∧ wx.heap[w.heap.size]? = some (.cells #[.int .i64 (ls.length : Int), .int .i64 0] 105 (0, 0)) ∧ Only (Three P Bo Bp) w wx)
    case first =>
      go_region
      all_goals (go_wp2_with fail; go_meet; exact ⟨(HQ.out.load HL.out _).drew, (set_far _ (by exact hwB) _).trans HBX.out, (honly.setCell (p := ⟨Bo, ls.length * 2 + 1, none⟩) (Or.inr (Or.inl rfl)) _).drew⟩)
    case rest =>
      clear v0 v1 f0 f1 f2 f3 f4 bf k0 k1 honly
      obtain ⟨hq, hbox, honly⟩ := hcut
      have v0 := cell_of hbox 0
      have v1 := cell_of hbox 1
      simp at v0 v1
      obtain ⟨f0, f1, f2, f3, f4⟩ := hq.facts
      have z4 := hq.frozen 4
      have hPp : ¬ P = Bp := hq.ne2
      obtain ⟨hPw, _, hBpw⟩ := hq.lt
      have HSP2 := Lib.hid ((hq.alloc (.cells #[.int .i64 (ls.length : Int)] 3)).sparePlan hc2)
      have HQ2 := Lib.hid hq
      clear hq hbox
      go_upto_region 5 with (fail)
      go_region_law (refine step_append_room rfl (.tmp 48) (.tmp 51) 39 rfl 3 j0 1 Try.underlying39 hj hj1 Bp 0 pl.length cap (by simp [Act.eval]) ⟨wc.heap.size, 0, none⟩ 1 1 [.int .i64 (ls.length : Int)] (by simp [Act.eval]) rfl (by intro j x hj; match j, hj with | 0, hj => (simp at hj; subst hj; go_simp)) (by intro x hx; simp at hx; rcases hx with rfl; rfl) (by omega) (by intro j hj; rw [Nat.zero_add, Nat.mul_one]; exact HSP2.out j hj) ?_; simp only [World.setCells])
      all_goals go_wp2
      all_goals go_end0
      all_goals exact ⟨rfl, by rw [← HLS.out]; exact ((HQ2.out.go_on hc2 _).alloc _).drew, ((((honly.setCell (p := ⟨Bp, pl.length, none⟩) (Or.inr (Or.inr rfl)) _).setCell (p := ⟨P, 4, none⟩) (Or.inl rfl) _).alloc _).drew)⟩

set_option maxHeartbeats 2000000 in
set_option maxRecDepth 100000 in
theorem put_old (P T Bo Bp cap : Nat) (room : Int) (ls pl : List Int) (rest : List Value) (b : Nat) (l size : Int) (w : World) (h : Pk w P T Bo Bp cap room ls pl rest)
    (hs : 1 ≤ size ∧ size ≤ 100) (hL : ls[b]? = some l) (hl : 1 ≤ l ∧ l ≤ 1000) (hc2 : pl.length < cap) :
    Calls Try.prog 129 #[.pointer (some ⟨P, 0, none⟩), .agg #[.int .i64 (b : Int), .int .i64 l], .int .i64 size] w (Put_ P T Bo Bp cap room (ls.set b (l + size)) (pl ++ [(b : Int)]) rest w) := by
  obtain ⟨j0, hj, hj0, hj1, hj2⟩ := info_parts int_info
  have hk := h.alloc (.cells #[.int .i64 (b : Int), .int .i64 l] 105)
  obtain ⟨f0, f1, f2, f3, f4⟩ := hk.facts
  obtain ⟨hP, hBo, hBp⟩ := h.lt
  have hPB : ¬ P = Bo := h.ne1
  have HK := Lib.hid hk
  have hwB : ¬ w.heap.size = Bo := by omega
  have hbl := (List.getElem?_eq_some_iff.1 hL).1
  have hne : ((b : Int) == (ls.length : Int)) = false := by rw [beq_eq_false_iff_ne]; omega
  have HL0 := Lib.hid hL
  clear hk h hL
  go_enter Try.func129, Try.ntmps129
  go_wp2
  go_quiet (fail)
  go_upto_if 11 with (fail)
  go_cut [] (fun wx => Pk wx P T Bo Bp cap room ls pl rest ∧ wx.heap[w.heap.size]? = some (.cells #[.int .i64 (b : Int), .int .i64 l] 105 (0, 0)) ∧ Only (Three P Bo Bp) w wx)
  case first =>
    go_wp2_with fail
    go_meet
    exact ⟨HK.out.drewN _, heap_alloc_new w _, ((Only.refl _ _).alloc _).drewN _⟩
  case rest =>
    obtain ⟨hq, hbox, honly⟩ := hcut
    have hL := HL0.out
    clear f0 f1 f2 f3 f4
    have hql := hq.len1
    have hq9 := hq.cap9
    have v0 := cell_of hbox 0
    have v1 := cell_of hbox 1
    simp at v0 v1
    obtain ⟨f0, f1, f2, f3, f4⟩ := hq.facts
    have bf := hq.boxFree (b * 2 + 1)
    obtain ⟨k0, k1⟩ := hq.box hL
    have hLl := (List.getElem?_eq_some_iff.1 hL).1
    have HL := Lib.hid hL
    have HQ := Lib.hid hq
    have HBX := Lib.hid hbox
    clear hq hbox hL
    go_upto_region 4 with (fail)
    go_cut [] (fun wx => Pk wx P T Bo Bp cap room (ls.set b (l + size)) pl rest ∧ wx.heap[w.heap.size]? = some (.cells #[.int .i64 (b : Int), .int .i64 l] 105 (0, 0)) ∧ Only (Three P Bo Bp) w wx)
    case first =>
      go_region
      all_goals (go_wp2_with fail; go_meet; exact ⟨(HQ.out.load HL.out _).drew, (set_far _ (by exact hwB) _).trans HBX.out, (honly.setCell (p := ⟨Bo, b * 2 + 1, none⟩) (Or.inr (Or.inl rfl)) _).drew⟩)
    case rest =>
      clear v0 v1 f0 f1 f2 f3 f4 bf k0 k1 honly
      obtain ⟨hq, hbox, honly⟩ := hcut
      have v0 := cell_of hbox 0
      have v1 := cell_of hbox 1
      simp at v0 v1
      obtain ⟨f0, f1, f2, f3, f4⟩ := hq.facts
      have z4 := hq.frozen 4
      have hPp : ¬ P = Bp := hq.ne2
      obtain ⟨hPw, _, hBpw⟩ := hq.lt
      have HSP2 := Lib.hid ((hq.alloc (.cells #[.int .i64 (b : Int)] 3)).sparePlan hc2)
      have HQ2 := Lib.hid hq
      clear hq hbox
      go_upto_region 5 with (fail)
      go_region_law (refine step_append_room rfl (.tmp 48) (.tmp 51) 39 rfl 3 j0 1 Try.underlying39 hj hj1 Bp 0 pl.length cap (by simp [Act.eval]) ⟨wc.heap.size, 0, none⟩ 1 1 [.int .i64 (b : Int)] (by simp [Act.eval]) rfl (by intro j x hj; match j, hj with | 0, hj => (simp at hj; subst hj; go_simp)) (by intro x hx; simp at hx; rcases hx with rfl; rfl) (by omega) (by intro j hj; rw [Nat.zero_add, Nat.mul_one]; exact HSP2.out j hj) ?_; simp only [World.setCells])
      all_goals go_wp2
      all_goals go_end0
      all_goals exact ⟨rfl, by exact ((HQ2.out.go_on hc2 _).alloc _).drew, ((((honly.setCell (p := ⟨Bp, pl.length, none⟩) (Or.inr (Or.inr rfl)) _).setCell (p := ⟨P, 4, none⟩) (Or.inl rfl) _).alloc _).drew)⟩

theorem put_any (P T Bo Bp cap : Nat) (room : Int) (ls pl : List Int) (rest : List Value) (b : Nat) (size : Int) (w : World) (h : Pk w P T Bo Bp cap room ls pl rest)
    (hs : 1 ≤ size ∧ size ≤ 100) (hr : room ≤ 1000) (hl : Loads room ls) (hb : b ≤ ls.length) (hc1 : ls.length < cap) (hc2 : pl.length < cap) :
    Calls Try.prog 129 #[.pointer (some ⟨P, 0, none⟩), cart ls b, .int .i64 size] w (Put_ P T Bo Bp cap room (addTo ls b size) (pl ++ [(b : Int)]) rest w) := by
  by_cases e : b = ls.length
  · subst e
    rw [cart_new]
    have e2 : addTo ls ls.length size = ls ++ [size] := by unfold addTo; rw [if_pos rfl]
    rw [e2]
    exact put_new P T Bo Bp cap room ls pl rest size w h hs hc1 hc2
  · have hlk : ls[b]? = some ls[b] := List.getElem?_eq_getElem (by omega)
    have hlb := hl.at_ hlk
    rw [cart_at hlk, addTo_old hlk]
    exact put_old P T Bo Bp cap room ls pl rest b _ size w h hs hlk (by omega) hc2
end Go.Proofs.Ytoheoojpmndhoaa

namespace Go.Proofs.Ytoheoojpmndhoaa
set_option linter.unusedVariables false
open Go.RowKit

section
variable {w w' : World} {P T Bo Bp cap : Nat} {room : Int} {ls pl : List Int} {rest : List Value}

theorem Pk.popPlan {b : Int} (h : Pk w P T Bo Bp cap room ls (pl ++ [b]) rest) : Pk (w.setCell ⟨P, 4, none⟩ (.slice (some ⟨Bp, 0, none⟩) pl.length cap)) P T Bo Bp cap room ls pl rest := by
  have n1 := h.ne1
  have n2 := h.ne2
  have hl := h.len2
  rw [List.length_append] at hl
  refine ⟨?_, h.boxes.keep (set_far _ (by exact Ne.symm n1) _), ?_, n1, n2, h.ne3, h.len1, by omega, h.cap9⟩
  · rw [set_self h.self _ _]
    simp [five]
  · obtain ⟨cs, hb, hs, hc⟩ := h.plan
    exact ⟨cs, (set_far _ (by exact Ne.symm n2) _).trans hb, hs, fun i u hi => hc i u (by rw [List.getElem?_append_left (List.getElem?_eq_some_iff.1 hi).1]; exact hi)⟩

theorem Pk.popBox {x : Int} (h : Pk w P T Bo Bp cap room (ls ++ [x]) pl rest) :
    Pk (((w.setCell ⟨P, 3, none⟩ (.slice (some ⟨Bo, 0, none⟩) ls.length cap)).setCell ⟨P, 0, none⟩ (.int .i64 (ls.length : Int))).setCell ⟨P, 1, none⟩ (.int .i64 0)) P T Bo Bp cap room ls pl rest := by
  have n1 := h.ne1
  have n2 := h.ne2
  have hl := h.len1
  rw [List.length_append] at hl
  refine ⟨?_, ?_, ((h.plan.keep (set_far _ (by exact Ne.symm n2) _)).keep (set_far _ (by exact Ne.symm n2) _)).keep (set_far _ (by exact Ne.symm n2) _), n1, n2, h.ne3, by omega, h.len2, h.cap9⟩
  · rw [set_self (set_self (set_self h.self _ _) _ _) _ _]
    simp [five]
  · obtain ⟨cs, hb, hs, hc⟩ := h.boxes
    exact ⟨cs, (((set_far _ (by exact Ne.symm n1) _).trans ((set_far _ (by exact Ne.symm n1) _).trans (set_far _ (by exact Ne.symm n1) _)))).trans hb, hs, fun i u hi => hc i u (by rw [List.getElem?_append_left (List.getElem?_eq_some_iff.1 hi).1]; exact hi)⟩

theorem set_same {ls : List Int} {b : Nat} {l : Int} (h : ls[b]? = some l) : ls.set b l = ls := by
  obtain ⟨hb, e⟩ := List.getElem?_eq_some_iff.1 h
  rw [← e]
  exact List.set_getElem_self hb

theorem Pk.last {b : Int} (h : Pk w P T Bo Bp cap room ls (pl ++ [b]) rest) : w.cell? ⟨Bp, pl.length, none⟩ = some (.int .i64 b) := by
  obtain ⟨cs, hb, hs, hc⟩ := h.plan
  rw [cell_of hb]
  exact hc _ b (by simp)
end

set_option maxHeartbeats 2000000 in
set_option maxRecDepth 100000 in
theorem takeBack_new (P T Bo Bp cap : Nat) (room : Int) (ls pl : List Int) (rest : List Value) (size : Int) (w : World) (h : Pk w P T Bo Bp cap room (ls ++ [size]) (pl ++ [(ls.length : Int)]) rest) (hs : 1 ≤ size ∧ size ≤ 100) :
    Calls Try.prog 133 #[.pointer (some ⟨P, 0, none⟩), .int .i64 size] w (Put_ P T Bo Bp cap room ls pl rest w) := by
  obtain ⟨f0, f1, f2, f3, f4⟩ := h.facts
  obtain ⟨hP, hBo, hBp⟩ := h.lt
  have hlast := h.last
  have hlen1 := h.len1
  have hlen2 := h.len2
  have hcap := h.cap9
  rw [List.length_append] at hlen1 hlen2
  simp only [List.length_append, List.length_cons, List.length_nil, Nat.zero_add] at f0 f3 f4 hlen1 hlen2
  obtain ⟨kc, hkc⟩ : ∃ kc, ls.length = kc := ⟨_, rfl⟩
  obtain ⟨pc, hpc⟩ : ∃ pc, pl.length = pc := ⟨_, rfl⟩
  have HK := Lib.hid hkc
  have HP := Lib.hid hpc
  have hL : (ls ++ [size])[kc]? = some size := by rw [← hkc]; simp
  obtain ⟨k0, k1⟩ := h.box hL
  have z4 := h.frozen 4
  have bf := h.boxFree (kc * 2 + 1)
  have n1 := h.ne1
  have n2 := h.ne2
  have n3 := h.ne3
  rw [hkc] at f0 f3 hlast hlen1
  rw [hpc] at f4 hlast hlen2
  have HPK := Lib.hid h
  have hset : (ls ++ [size]).set kc 0 = ls ++ [0] := by rw [← hkc, List.set_append_right _ _ (Nat.le_refl _), Nat.sub_self]; rfl
  have hq1 := (h.popPlan).load hL 0
  rw [hset, hpc] at hq1
  have hq := hq1.alloc (.cells #[.int .i64 (kc : Int), .int .i64 0] 105)
  have hsz : ((w.setCell ⟨P, 4, none⟩ (.slice (some ⟨Bp, 0, none⟩) pc cap)).setCell ⟨Bo, kc * 2 + 1, none⟩ (.int .i64 0)).heap.size = w.heap.size := by simp
  have hbx : (((w.setCell ⟨P, 4, none⟩ (.slice (some ⟨Bp, 0, none⟩) pc cap)).setCell ⟨Bo, kc * 2 + 1, none⟩ (.int .i64 0)).alloc (.cells #[.int .i64 (kc : Int), .int .i64 0] 105)).heap[w.heap.size]? = some (.cells #[.int .i64 (kc : Int), .int .i64 0] 105 (0, 0)) := new_at _ _ hsz.symm
  have hon : Only (Three P Bo Bp) w (((w.setCell ⟨P, 4, none⟩ (.slice (some ⟨Bp, 0, none⟩) pc cap)).setCell ⟨Bo, kc * 2 + 1, none⟩ (.int .i64 0)).alloc (.cells #[.int .i64 (kc : Int), .int .i64 0] 105)) :=
    ((((Only.refl _ _).setCell (p := ⟨P, 4, none⟩) (Or.inl rfl) _).setCell (p := ⟨Bo, kc * 2 + 1, none⟩) (Or.inr (Or.inl rfl)) _).alloc _)
  obtain ⟨WX, hWX⟩ : ∃ WX, ((w.setCell ⟨P, 4, none⟩ (.slice (some ⟨Bp, 0, none⟩) pc cap)).setCell ⟨Bo, kc * 2 + 1, none⟩ (.int .i64 0)).alloc (.cells #[.int .i64 (kc : Int), .int .i64 0] 105) = WX := ⟨_, rfl⟩
  rw [hWX] at hq hbx hon
  have HQ := Lib.hid hq
  have HBX := Lib.hid hbx
  have HON := Lib.hid hon
  have HWX := Lib.hid hWX
  have HSET := Lib.hid hset
  clear hkc hpc hL h hq1 hq hsz hbx hon hWX hset
  go_enter Try.func133, Try.ntmps133
  go_wp2_with fail
  rw [HWX.out]
  obtain ⟨e0, e1, e2, e3, e4⟩ := HQ.out.facts
  obtain ⟨b0, b1⟩ := HQ.out.box (i := kc) (l := 0) (by rw [List.getElem?_append_right (by rw [HK.out]; exact Nat.le_refl _), HK.out, Nat.sub_self]; rfl)
  have v0 := cell_of HBX.out 0
  have v1 := cell_of HBX.out 1
  simp at v0 v1
  simp only [List.length_append, List.length_cons, List.length_nil, Nat.zero_add] at e0 e3
  rw [HK.out] at e0 e3
  have y0 := HQ.out.frozen 0
  have y1 := HQ.out.frozen 1
  have y3 := HQ.out.frozen 3
  have HPB := Lib.hid (show Pk (((WX.setCell ⟨P, 3, none⟩ (.slice (some ⟨Bo, 0, none⟩) kc cap)).setCell ⟨P, 0, none⟩ (.int .i64 (kc : Int))).setCell ⟨P, 1, none⟩ (.int .i64 0)) P T Bo Bp cap room ls pl rest by have := HQ.out.popBox; rwa [HK.out] at this)
  have hwP : ¬ w.heap.size = P := by omega
  clear f0 f1 f2 f3 f4 hlast k0 k1 z4 bf
  go_region
  go_wp2
  go_end0
  exact ⟨rfl, HPB.out.drew, (((HON.out.setCell (p := ⟨P, 3, none⟩) (Or.inl rfl) _).setCell (p := ⟨P, 0, none⟩) (Or.inl rfl) _).setCell (p := ⟨P, 1, none⟩) (Or.inl rfl) _).drew⟩

set_option maxHeartbeats 2000000 in
set_option maxRecDepth 100000 in
theorem takeBack_old (P T Bo Bp cap : Nat) (room : Int) (ls pl : List Int) (rest : List Value) (b : Nat) (l size : Int) (w : World) (h : Pk w P T Bo Bp cap room (ls.set b (l + size)) (pl ++ [(b : Int)]) rest) (hs : 1 ≤ size ∧ size ≤ 100) (hL : ls[b]? = some l) (hl : 1 ≤ l ∧ l ≤ 1000) :
    Calls Try.prog 133 #[.pointer (some ⟨P, 0, none⟩), .int .i64 size] w (Put_ P T Bo Bp cap room ls pl rest w) := by
  obtain ⟨f0, f1, f2, f3, f4⟩ := h.facts
  obtain ⟨hP, hBo, hBp⟩ := h.lt
  have hlast := h.last
  have hlen1 := h.len1
  have hlen2 := h.len2
  have hcap := h.cap9
  have hb := (List.getElem?_eq_some_iff.1 hL).1
  rw [List.length_set] at hlen1
  rw [List.length_append] at hlen2
  simp only [List.length_append, List.length_cons, List.length_nil, Nat.zero_add, List.length_set] at f0 f3 f4 hlen2
  obtain ⟨kc, hkc⟩ : ∃ kc, ls.length = kc := ⟨_, rfl⟩
  obtain ⟨pc, hpc⟩ : ∃ pc, pl.length = pc := ⟨_, rfl⟩
  have hL2 : (ls.set b (l + size))[b]? = some (l + size) := List.getElem?_set_self hb
  obtain ⟨k0, k1⟩ := h.box hL2
  have z4 := h.frozen 4
  have bf := h.boxFree (b * 2 + 1)
  have n1 := h.ne1
  have n2 := h.ne2
  have n3 := h.ne3
  rw [hkc] at f0 f3 hlen1 hb
  rw [hpc] at f4 hlast hlen2
  have hset : (ls.set b (l + size)).set b l = ls := by
    rw [List.set_set]
    exact set_same hL
  have hq1 := (h.popPlan).load hL2 l
  rw [hset, hpc] at hq1
  have hq := hq1.alloc (.cells #[.int .i64 (b : Int), .int .i64 0] 105)
  have hsz : ((w.setCell ⟨P, 4, none⟩ (.slice (some ⟨Bp, 0, none⟩) pc cap)).setCell ⟨Bo, b * 2 + 1, none⟩ (.int .i64 l)).heap.size = w.heap.size := by simp
  have hbx : (((w.setCell ⟨P, 4, none⟩ (.slice (some ⟨Bp, 0, none⟩) pc cap)).setCell ⟨Bo, b * 2 + 1, none⟩ (.int .i64 l)).alloc (.cells #[.int .i64 (b : Int), .int .i64 0] 105)).heap[w.heap.size]? = some (.cells #[.int .i64 (b : Int), .int .i64 0] 105 (0, 0)) := new_at _ _ hsz.symm
  have hon : Only (Three P Bo Bp) w (((w.setCell ⟨P, 4, none⟩ (.slice (some ⟨Bp, 0, none⟩) pc cap)).setCell ⟨Bo, b * 2 + 1, none⟩ (.int .i64 l)).alloc (.cells #[.int .i64 (b : Int), .int .i64 0] 105)) :=
    ((((Only.refl _ _).setCell (p := ⟨P, 4, none⟩) (Or.inl rfl) _).setCell (p := ⟨Bo, b * 2 + 1, none⟩) (Or.inr (Or.inl rfl)) _).alloc _)
  obtain ⟨WX, hWX⟩ : ∃ WX, ((w.setCell ⟨P, 4, none⟩ (.slice (some ⟨Bp, 0, none⟩) pc cap)).setCell ⟨Bo, b * 2 + 1, none⟩ (.int .i64 l)).alloc (.cells #[.int .i64 (b : Int), .int .i64 0] 105) = WX := ⟨_, rfl⟩
  rw [hWX] at hq hbx hon
  have HK := Lib.hid hkc
  have HQ := Lib.hid hq
  have HBX := Lib.hid hbx
  have HON := Lib.hid hon
  have HWX := Lib.hid hWX
  have HL := Lib.hid hL
  have hsub : l + size - size = l := by omega
  have hne : (l == 0) = false := by simp; omega
  clear hkc hpc hL hL2 h hq1 hq hsz hbx hon hWX hset
  go_enter Try.func133, Try.ntmps133
  go_wp2_with fail
  rw [HWX.out]
  obtain ⟨e0, e1, e2, e3, e4⟩ := HQ.out.facts
  obtain ⟨b0, b1⟩ := HQ.out.box HL.out
  have v0 := cell_of HBX.out 0
  have v1 := cell_of HBX.out 1
  simp at v0 v1
  rw [HK.out] at e0 e3
  clear f0 f1 f2 f3 f4 hlast k0 k1 z4 bf
  go_region
  go_wp2
  go_end0
  exact ⟨rfl, HQ.out.drew, HON.out.drew⟩

theorem takeBack_any (P T Bo Bp cap : Nat) (room : Int) (ls pl : List Int) (rest : List Value) (b : Nat) (size : Int) (w : World) (h : Pk w P T Bo Bp cap room (addTo ls b size) (pl ++ [(b : Int)]) rest)
    (hs : 1 ≤ size ∧ size ≤ 100) (hr : room ≤ 1000) (hl : Loads room ls) (hb : b ≤ ls.length) :
    Calls Try.prog 133 #[.pointer (some ⟨P, 0, none⟩), .int .i64 size] w (Put_ P T Bo Bp cap room ls pl rest w) := by
  by_cases e : b = ls.length
  · subst e
    have e2 : addTo ls ls.length size = ls ++ [size] := by unfold addTo; rw [if_pos rfl]
    rw [e2] at h
    exact takeBack_new P T Bo Bp cap room ls pl rest size w h hs
  · have hlk : ls[b]? = some ls[b] := List.getElem?_eq_getElem (by omega)
    have hlb := hl.at_ hlk
    rw [addTo_old hlk] at h
    exact takeBack_old P T Bo Bp cap room ls pl rest b _ size w h hs hlk (by omega)
end Go.Proofs.Ytoheoojpmndhoaa

namespace Go.Proofs.Ytoheoojpmndhoaa
set_option linter.unusedVariables false
open Go.RowKit

theorem make_boxes (n : Nat) (hn : n ≤ 9) (W : World) : (Instr.makeSlice 106 (.int .i64 0) (.int .i64 (n : Int))).run Try.prog W =
    .ok (.slice (some ⟨W.heap.size, 0, none⟩) 0 n) (W.alloc (.cells (madeCells #[.int .i64 0, .int .i64 0] (n * 2)) 105)) := by
  obtain ⟨i, hi, hz, hs, hb⟩ := info_parts carton_info
  have h := run_make (P := Try.prog) W 106 105 i _ Try.underlying106 hi hz .i64 .i64 0 (n : Int) (by omega) (by omega) (by rw [hb]; omega) (by omega)
  simpa [hs, Value.cells] using h

theorem make_plan (n : Nat) (hn : n ≤ 9) (W : World) : (Instr.makeSlice 39 (.int .i64 0) (.int .i64 (n : Int))).run Try.prog W =
    .ok (.slice (some ⟨W.heap.size, 0, none⟩) 0 n) (W.alloc (.cells (madeCells #[.int .i64 0] n) 3)) := by
  obtain ⟨i, hi, hz, hs, hb⟩ := info_parts int_info
  have h := run_make (P := Try.prog) W 39 3 i _ Try.underlying39 hi hz .i64 .i64 0 (n : Int) (by omega) (by omega) (by rw [hb]; omega) (by omega)
  simpa [hs, Value.cells] using h

theorem boxes_new {w : World} {g n : Nat} {z : Array Value} (h : w.heap[g]? = some (.cells (madeCells z (n * 2)) 105 (0, 0))) : Boxes w g n [] :=
  ⟨_, h, by simp [madeCells], fun i l hi => by simp at hi⟩
theorem plan_new {w : World} {g n : Nat} {z : Array Value} (h : w.heap[g]? = some (.cells (madeCells z n) 3 (0, 0))) : Plan w g n [] :=
  ⟨_, h, by simp [madeCells], fun i l hi => by simp at hi⟩

/-- A packing that is handed over as a value. -/
def pkv (Bo Bp cap : Nat) (room : Int) (ls pl : List Int) : Value := .agg (five Bo Bp cap room ls pl).toArray

def NewPk (n : Nat) (room : Int) (w : World) (e : Ending) (w' : World) : Prop :=
  ∃ Bo Bp, e = .returned (.agg #[.int .i64 0, .int .i64 0, .int .i64 room, .slice (some ⟨Bo, 0, none⟩) 0 n, .slice (some ⟨Bp, 0, none⟩) 0 n]) ∧ Boxes w' Bo n [] ∧ Plan w' Bp n [] ∧ Bo ≠ Bp ∧ w.heap.size ≤ Bo ∧ w.heap.size ≤ Bp ∧ Below w.heap.size w w'

set_option maxHeartbeats 1000000 in
theorem newPacking_any (A : Option Addr) (n c : Nat) (room : Int) (w : World) (hn : n ≤ 9) :
    Calls Try.prog 124 #[.slice A n c, .int .i64 room] w (NewPk n room w) := by
  have hm1 := make_boxes n hn
  have hm2 := make_plan n hn
  go_enter Try.func124, Try.ntmps124
  go_wp2
  go_region
  all_goals go_wp2
  · refine bodyPost_ret (v := pkv (w.heap.size + 1) (w.heap.size + 1 + 1) n room [] []) (by simp [results, Try.results124, go_sem, pkv, five]) rfl ⟨_, _, rfl, boxes_new (z := #[.int .i64 0, .int .i64 0]) ?_, plan_new (z := #[.int .i64 0]) ?_, by omega, by omega, by omega, ?_⟩
    · exact (alloc_old _ (by simp) _).trans (new_at _ _ (by simp))
    · exact new_at _ _ (by simp)
    · exact ((((Below.refl _ _).alloc (Nat.le_refl _) _).alloc (by simp) _).alloc (by simp; omega) _).drew
  · refine bodyPost_ret (v := pkv (w.heap.size + 1 + 1) (w.heap.size + 1) n room [] []) (by simp [results, Try.results124, go_sem, pkv, five]) rfl ⟨_, _, rfl, boxes_new (z := #[.int .i64 0, .int .i64 0]) ?_, plan_new (z := #[.int .i64 0]) ?_, by omega, by omega, by omega, ?_⟩
    · exact new_at _ _ (by simp)
    · exact (alloc_old _ (by simp) _).trans (new_at _ _ (by simp))
    · exact ((((Below.refl _ _).alloc (Nat.le_refl _) _).alloc (by simp) _).alloc (by simp; omega) _).drew
end Go.Proofs.Ytoheoojpmndhoaa

namespace Go.Proofs.Ytoheoojpmndhoaa
set_option linter.unusedVariables false
open Go.RowKit

set_option maxHeartbeats 400000 in
theorem cartonAt_any (P T Bo Bp cap : Nat) (room : Int) (ls pl : List Int) (rest : List Value) (b : Nat) (w : World) (h : Pk w P T Bo Bp cap room ls pl rest) (hb : b ≤ ls.length) :
    Calls Try.prog 132 #[.pointer (some ⟨P, 0, none⟩), .int .i64 (b : Int)] w (Named ls b w) := by
  obtain ⟨f0, f1, f2, f3, f4⟩ := h.facts
  obtain ⟨hP, hBo, hBp⟩ := h.lt
  have h1 := h.len1
  have h9 := h.cap9
  by_cases e : b = ls.length
  · subst e
    have HC := Lib.hid (cart_new ls)
    clear h
    go_enter Try.func132, Try.ntmps132
    go_wp2
    exact bodyPost_ret (v := .agg #[.int .i64 (ls.length : Int), .int .i64 0]) (by simp [results, Try.results132, go_sem]) rfl ⟨by rw [HC.out], (Below.refl _ _).alloc (Nat.le_refl _) _⟩
  · have hbl : b < ls.length := by omega
    obtain ⟨l, hle⟩ : ∃ l, l = ls[b] := ⟨_, rfl⟩
    have hl : ls[b]? = some l := by rw [hle]; exact List.getElem?_eq_getElem hbl
    clear hle
    obtain ⟨g1, g2⟩ := h.box hl
    have HC := Lib.hid (cart_at hl)
    clear h hl
    go_enter Try.func132, Try.ntmps132
    go_wp2
    exact bodyPost_ret (v := .agg #[.int .i64 (b : Int), .int .i64 l]) (by simp [results, Try.results132, go_sem]) rfl ⟨by rw [HC.out], (Below.refl _ _).alloc (Nat.le_refl _) _⟩

/-- A packing of a plan, and that it is one; or that it is none. -/
def PlanRet (n : Nat) (room : Int) (plan : List Int) (r : Option (List Int)) (w : World) (e : Ending) (w' : World) : Prop :=
  (r = none ∧ e = .returned (.tuple #[.agg #[.int .i64 0, .int .i64 0, .int .i64 0, .slice none 0 0, .slice none 0 0], .bool false]) ∧ Below w.heap.size w w') ∨
  ∃ ls Bo Bp, r = some ls ∧ e = .returned (.tuple #[.agg #[.int .i64 (ls.length : Int), .int .i64 0, .int .i64 room, .slice (some ⟨Bo, 0, none⟩) ls.length n, .slice (some ⟨Bp, 0, none⟩) n n], .bool true]) ∧
    Boxes w' Bo n ls ∧ Plan w' Bp n plan ∧ Bo ≠ Bp ∧ w.heap.size ≤ Bo ∧ w.heap.size ≤ Bp ∧ Below w.heap.size w w'

/-- The loads that the written program finds for a plan. -/
def packM (room : Int) (xs plan : List Int) : Option (List Int) := if askedB xs room then loadsM room xs plan else none
theorem packM_no {room : Int} {xs plan : List Int} (h : askedB xs room = false) : packM room xs plan = none := by unfold packM; rw [if_neg (by rw [h]; decide)]
theorem packM_len {room : Int} {xs plan ls : List Int} (h : packM room xs plan = some ls) : ls.length ≤ 9 := by
  unfold packM at h
  split at h
  · next ha =>
    obtain ⟨h1, h9, hx, _⟩ := askedB_at ha
    unfold loadsM at h
    split at h
    · exact Nat.le_trans (foll_loads hx (Nat.le_refl _) h).2 h9
    · cases h
  · cases h
theorem packM_yes {room : Int} {xs plan : List Int} (h : askedB xs room = true) : packM room xs plan = loadsM room xs plan := by unfold packM; rw [if_pos h]

end Go.Proofs.Ytoheoojpmndhoaa

namespace Go.Proofs.Ytoheoojpmndhoaa
set_option linter.unusedVariables false
open Go.RowKit

section
variable (P T Bo Bp cap : Nat) (room : Int) (ls pl : List Int) (rest : List Value)

set_option maxHeartbeats 1000000 in
theorem firstFitting_any (size : Int) (w : World) (h : Pk w P T Bo Bp cap room ls pl rest) (hl : Loads room ls) (hr : 1 ≤ room ∧ room ≤ 1000) (hs : 1 ≤ size ∧ size ≤ 100) :
    Calls Try.prog 123 #[.pointer (some ⟨P, 0, none⟩), .int .i64 size] w (Named ls (pick 102 room size ls) w) := by
  obtain ⟨f0, f1, f2, f3, f4⟩ := h.facts
  obtain ⟨hP, hBo, hBp⟩ := h.lt
  have h1 := h.len1
  have h9 := h.cap9
  have H := Lib.hid h
  clear h
  go_enter Try.func123, Try.ntmps123
  go_wp2
  clear f0 f1 f2 f3 f4
  go_loopw [6, 12] (fun _ i wr => ∃ k : Nat, k ≤ ls.length ∧ i = .int .i64 k ∧ (∀ (j : Nat) l, j < k → ls[j]? = some l → room < l + size) ∧ Below w.heap.size w wr ∧ ∃ x y, wr.heap[w.heap.size]? = some (.cells #[x, y] 105 (0, 0))) (fun _ i _ => ls.length - (intOf i).toNat)
  case atStart => exact ⟨0, Nat.zero_le _, rfl, fun j l hj => by omega, (Below.refl _ _).alloc (Nat.le_refl _) _, _, _, heap_alloc_new w _⟩
  case round =>
    obtain ⟨k, hk, rfl, hno, hb, x, y, hnew⟩ := hrel
    have hpk := H.out.belowAll hb
    have hwr := heap_lt hnew
    have r0 := cell_of hnew 0
    have r1 := cell_of hnew 1
    have z0 := frozen_of hnew 0
    have z1 := frozen_of hnew 1
    simp at r0 r1
    obtain ⟨f0, f1, f2, f3, f4⟩ := hpk.facts
    have HPK := Lib.hid hpk
    have HNO := Lib.hid hno
    have HNEW := Lib.hid hnew
    clear hpk hno hnew
    by_cases hlt : k < ls.length
    · obtain ⟨l, hle⟩ : ∃ l, l = ls[k] := ⟨_, rfl⟩
      have hlk : ls[k]? = some l := by rw [hle]; exact List.getElem?_eq_getElem hlt
      clear hle
      have hlb := hl.at_ hlk
      obtain ⟨g1, g2⟩ := HPK.out.box hlk
      have HLK := Lib.hid hlk
      clear hlk
      by_cases hf : l + size ≤ room
      · have hd : decide (l + size ≤ room) = true := decide_eq_true hf
        go_wp2_with (go_at_call 130; refine (fits_any P T Bo Bp cap room ls pl rest _ _ _ _ (HPK.out.belowAll ((Below.refl _ _).alloc (Nat.le_refl _) _)) (by omega) (by omega) true hd).mono ?_; rintro e w1 ⟨rfl, hb1⟩; obtain ⟨hbw, hres, hvar, hszw⟩ := after_call hb HNEW.out hb1; have v0 := cell_of hvar 0; have v1 := cell_of hvar 1; have y0 := cell_of hres 0; have y1 := cell_of hres 1; have x0 := frozen_of hres 0; have x1 := frozen_of hres 1; simp at v0 v1 y0 y1; have HRES := Lib.hid hres; clear hres hvar)
        exact bodyPost_ret (v := .agg #[.int .i64 (k : Int), .int .i64 l]) (by simp [results, Try.results123, go_sem, y0, y1]) rfl ⟨by rw [pick_first HNO.out HLK.out hf, cart_at HLK.out], (hbw.setCell (p := ⟨w.heap.size, 0, none⟩) (Nat.le_refl _) _).setCell (p := ⟨w.heap.size, 1, none⟩) (Nat.le_refl _) _⟩
      · have hd : decide (l + size ≤ room) = false := decide_eq_false hf
        go_wp2_with (go_at_call 130; refine (fits_any P T Bo Bp cap room ls pl rest _ _ _ _ (HPK.out.belowAll ((Below.refl _ _).alloc (Nat.le_refl _) _)) (by omega) (by omega) false hd).mono ?_; rintro e w1 ⟨rfl, hb1⟩; obtain ⟨hbw, hres, hvar, hszw⟩ := after_call hb HNEW.out hb1; have v0 := cell_of hvar 0; have v1 := cell_of hvar 1; have y0 := cell_of hres 0; have y1 := cell_of hres 1; have x0 := frozen_of hres 0; have x1 := frozen_of hres 1; simp at v0 v1 y0 y1; have HRES := Lib.hid hres; clear hres hvar)
        go_roundw
        case rel =>
          refine ⟨k + 1, by omega, by go_num, fun j l' hj hl' => ?_, hbw, _, _, HRES.out⟩
          by_cases e : j = k
          · subst e; rw [HLK.out] at hl'; injection hl' with hl'; omega
          · exact HNO.out j l' (by omega) hl'
        case measure => simp [intOf]; omega
    · obtain rfl : k = ls.length := by omega
      go_wp2
      exact bodyPost_ret (v := .agg #[.int .i64 (ls.length : Int), .int .i64 0]) (by simp [results, Try.results123, go_sem, r0, r1]) rfl ⟨by rw [pick_first_none HNO.out, cart_new], (hb.setCell (p := ⟨w.heap.size, 0, none⟩) (Nat.le_refl _) _).setCell (p := ⟨w.heap.size, 1, none⟩) (Nat.le_refl _) _⟩
end
end Go.Proofs.Ytoheoojpmndhoaa

namespace Go.Proofs.Ytoheoojpmndhoaa
set_option linter.unusedVariables false
open Go.RowKit

/-- A packing is handed over: its boxes and its plan lie in new blocks. -/
def PkVal (n : Nat) (room : Int) (ls pl : List Int) (w : World) (e : Ending) (w' : World) : Prop :=
  ∃ Bo Bp, e = .returned (.agg #[.int .i64 (ls.length : Int), .int .i64 0, .int .i64 room, .slice (some ⟨Bo, 0, none⟩) ls.length n, .slice (some ⟨Bp, 0, none⟩) pl.length n]) ∧ Boxes w' Bo n ls ∧ Plan w' Bp n pl ∧ Bo ≠ Bp ∧ w.heap.size ≤ Bo ∧ w.heap.size ≤ Bp ∧ Below w.heap.size w w'

theorem run_step {rule room : Int} {xs ls pl : List Int} {k : Nat} {size : Int} (h : (ls, pl) = run rule room (xs.take k) ([], [])) (hx : xs[k]? = some size) :
    (addTo ls (pick rule room size ls) size, pl ++ [(pick rule room size ls : Int)]) = run rule room (xs.take (k + 1)) ([], []) := by
  rw [take_snoc hx, run_snoc, ← h]

set_option maxHeartbeats 1000000 in
theorem packByRule_first (A : Option Addr) (n c : Nat) (xs : List Int) (room : Int) (lo hi : Nat) (w : World) (hn : xs.length = n) (hs : Seg w lo hi A xs) (hB : hi ≤ w.heap.size) (ha : askedB xs room = true) :
    Calls Try.prog 122 #[.slice A n c, .int .i64 room, .func (.func 123) #[] #[]] w (PkVal n room (run 102 room xs ([], [])).1 (run 102 room xs ([], [])).2 w) := by
  obtain ⟨h1, h9, hx, hr1, hr2⟩ := askedB_at ha
  rw [hn] at h1 h9
  have HN := Lib.hid hn
  have HX := Lib.hid hx
  clear hn hx ha
  go_enter Try.func122, Try.ntmps122
  go_wp2_with fail
  refine (newPacking_any _ _ _ _ _ h9).mono ?_
  rintro e w1 ⟨Bo, Bp, rfl, hbo, hbp, hne, hl1, hl2, hb1⟩
  have hres := new_cells hb1
  simp at hl1 hl2
  have hsz1 := hb1.size
  simp at hsz1
  have hbel1 : Below w.heap.size w w1 := ((Below.refl _ _).alloc (Nat.le_refl _) _).trans (hb1.mono (by simp))
  have hlo := hbo.lt
  have hlp := hbp.lt
  go_wp2
  go_loopw [9, 15] (fun _ i wr => ∃ k : Nat, k ≤ n ∧ i = .int .i64 k ∧ Below w.heap.size w wr ∧ ∃ s, s = run 102 room (xs.take k) ([], []) ∧
      Pk wr w1.heap.size 108 Bo Bp n room s.1 s.2 [] ∧ wr.heap[w.heap.size]? = w1.heap[w.heap.size]?) (fun _ i _ => n - (intOf i).toNat)
  case atStart =>
    exact ⟨0, Nat.zero_le _, rfl, hbel1.alloc (by omega) _, _, rfl, ⟨heap_alloc_new w1 _, hbo.keep (alloc_old _ hlo _), hbp.keep (alloc_old _ hlp _), by omega, by omega, hne, Nat.zero_le _, Nat.zero_le _, h9⟩, alloc_old _ (by omega) _⟩
  case round =>
    obtain ⟨k, hk, rfl, hb, s, hs0, hpk, hrb⟩ := hrel
    obtain ⟨ls, pl⟩ := s
    have hls : ls = (run 102 room (xs.take k) ([], [])).1 := by rw [← hs0]
    have hpl : pl = (run 102 room (xs.take k) ([], [])).2 := by rw [← hs0]
    have hld : Loads room ls := by rw [hls]; exact run_loads (fun x hx => HX.out x (List.mem_of_mem_take hx)) (fun x hx => by cases hx)
    have hll : ls.length ≤ k := by rw [hls]; refine Nat.le_trans (run_len1 _ _ _ _) ?_; simp; omega
    have hpp : pl.length = k := by rw [hpl, run_len]; simp [HN.out]; omega
    have HS := Lib.hid hs0
    have HPP := Lib.hid hpp
    have HRB := Lib.hid hrb
    clear hls hpl hs0 hpp hrb
    by_cases hlt : k < n
    · obtain ⟨b, off, u, rfl, _, hbh, hx, hc⟩ := hs.at_ (k := k) (by rw [HN.out]; exact hlt)
      have hcw : wr.cell? ⟨b, off + k, none⟩ = some (.int .i64 u) := (hb.cell (by exact Nat.lt_of_lt_of_le hbh hB)).trans hc
      have hu := HX.out u (List.mem_of_getElem? hx)
      have HU := Lib.hid hx
      clear hx hc
      go_wp2_with fail
      refine (firstFitting_any w1.heap.size 108 Bo Bp n room ls pl [] u _ hpk hld ⟨hr1, hr2⟩ ⟨hu.1, hu.2.1⟩).mono ?_
      rintro e w2 ⟨rfl, hb2⟩
      go_wp2_with fail
      refine (put_any w1.heap.size 108 Bo Bp n room ls pl [] (pick 102 room u ls) u _ (hpk.belowAll hb2) ⟨hu.1, hu.2.1⟩ hr2 hld (pick_le _ _ _ _) (by omega) (by rw [HPP.out]; exact hlt)).mono ?_
      rintro e w3 ⟨rfl, hpk3, honly⟩
      have hz2 := hb2.size
      have hz := hb.size
      have hb3 : Below w.heap.size w w3 := (hb.trans (hb2.mono hz)).trans (honly.below (by omega) (fun g hg => by rcases hg with rfl | rfl | rfl <;> omega))
      go_wp2
      go_roundw
      case rel =>
        refine ⟨k + 1, by omega, by go_num, hb3, _, run_step HS.out HU.out, hpk3, ?_⟩
        have hwl := hpk.lt.1
        rw [honly.block _ (by omega) (by rintro (h | h | h) <;> omega), hb2.block _ (by omega)]
        exact HRB.out
      case measure => simp [intOf]; omega
    · obtain rfl : k = n := by omega
      obtain ⟨f0, f1, f2, f3, f4⟩ := hpk.facts
      have hres2 := HRB.out.trans hres
      have r0 := cell_of hres2 0
      have r1 := cell_of hres2 1
      have r2 := cell_of hres2 2
      have r3 := cell_of hres2 3
      have r4 := cell_of hres2 4
      have z0 := frozen_of hres2 0
      have z1 := frozen_of hres2 1
      have z2 := frozen_of hres2 2
      have z3 := frozen_of hres2 3
      have z4 := frozen_of hres2 4
      simp at r0 r1 r2 r3 r4
      have hwz : w.heap.size < wr.heap.size := heap_lt hres2
      have hBoW : ¬ w.heap.size = Bo := by omega
      have hBpW : ¬ w.heap.size = Bp := by omega
      have HRES := Lib.hid hres2
      clear hres2
      go_wp2
      refine bodyPost_ret (v := .agg #[.int .i64 (ls.length : Int), .int .i64 0, .int .i64 room, .slice (some ⟨Bo, 0, none⟩) ls.length k, .slice (some ⟨Bp, 0, none⟩) pl.length k]) (by simp [results, Try.results122, go_sem, r0, r1, r2, r3, r4]) rfl ?_
      have e1 : ls = (run 102 room xs ([], [])).1 := by rw [← List.take_length (l := xs), HN.out, ← HS.out]
      have e2 : pl = (run 102 room xs ([], [])).2 := by rw [← List.take_length (l := xs), HN.out, ← HS.out]
      rw [← e1, ← e2]
      refine ⟨Bo, Bp, rfl, hpk.boxes.keep ?_, hpk.plan.keep ?_, hne, by omega, by omega, ?_⟩
      · iterate 5 rw [set_far _ (by exact Ne.symm hBoW)]
      · iterate 5 rw [set_far _ (by exact Ne.symm hBpW)]
      · exact ((((hb.setCell (p := ⟨w.heap.size, 0, none⟩) (Nat.le_refl _) _).setCell (p := ⟨w.heap.size, 1, none⟩) (Nat.le_refl _) _).setCell (p := ⟨w.heap.size, 2, none⟩) (Nat.le_refl _) _).setCell (p := ⟨w.heap.size, 3, none⟩) (Nat.le_refl _) _).setCell (p := ⟨w.heap.size, 4, none⟩) (Nat.le_refl _) _
end Go.Proofs.Ytoheoojpmndhoaa

namespace Go.Proofs.Ytoheoojpmndhoaa
set_option linter.unusedVariables false
open Go.RowKit

/-- A list, or that there is none. -/
def FillRet (r : Option (List Int)) (w : World) (e : Ending) (w' : World) : Prop :=
  (r = none ∧ e = .returned (.tuple #[.slice none 0 0, .bool false]) ∧ Below w.heap.size w w') ∨
  ∃ ys A c, r = some ys ∧ e = .returned (.tuple #[.slice A ys.length c, .bool true]) ∧ Own w' w.heap.size w'.heap.size A ys ∧ Below w.heap.size w w'

set_option maxHeartbeats 1000000 in
theorem fillFrom_any (A : Option Addr) (n c : Nat) (xs : List Int) (lo hi : Nat) (hn : xs.length = n) (hg : goodB xs = true) (m : Nat) :
    ∀ (k : Nat) (room : Int) (w : World), k + m = n → 0 ≤ room ∧ room ≤ 1000 → Seg w lo hi A xs → hi ≤ w.heap.size →
      Calls Try.prog 111 #[.slice A n c, .int .i64 (k : Int), .int .i64 room] w (FillRet (fillM xs m k room) w) := by
  obtain ⟨i0, hi0, hz0, hz1, hz2⟩ := info_parts int_info
  have HN := Lib.hid hn
  obtain ⟨g1, g2, g3⟩ := goodB_at hg
  have hn9 : n ≤ 9 := by omega
  have HG := Lib.hid g3
  clear hg g1 g2 g3 hn
  induction m using Nat.strongRecOn with
  | ind m ih =>
    intro k0 room w hkm hroom hs hB
    have IH := Lib.hid ih
    clear ih
    by_cases hz : room = 0
    · subst hz
      have HZ := Lib.hid (fillM_zero xs m k0)
      go_enter Try.func111, Try.ntmps111
      go_wp2
      go_ret2
      exact Or.inr ⟨[], none, 0, HZ.out, rfl, Own.nil_, Below.refl _ _⟩
    · have hz' : (room == 0) = false := by simpa using hz
      go_enter Try.func111, Try.ntmps111
      go_wp2
      go_loopw [8] (fun i wr => ∃ k : Nat, k0 ≤ k ∧ k ≤ n ∧ i = .int .i64 k ∧ Below w.heap.size w wr ∧ fillM xs m k0 room = fillM xs (n - k) k room) (fun i _ => n - (intOf i).toNat)
      case atStart => exact ⟨k0, Nat.le_refl _, by omega, rfl, Below.refl _ _, by rw [show n - k0 = m by omega]⟩
      case round =>
        obtain ⟨k, hk0, hk, rfl, hb, hf⟩ := hrel
        have HF := Lib.hid hf
        have hsz := hb.size
        have hsw := hs.below hb hB
        clear hf
        by_cases hlt : k < n
        · obtain ⟨bt, ot, x, rfl, _, hbt, hx, hct⟩ := hsw.at_ (k := k) (by rw [HN.out]; exact hlt)
          have hxb := HG.out x (List.mem_of_getElem? hx)
          have HX := Lib.hid hx
          clear hx
          obtain ⟨d, hd⟩ : ∃ d, n - k = d + 1 := ⟨n - k - 1, by omega⟩
          have hd2 : n - (k + 1) = d := by omega
          have HD := Lib.hid hd
          have HD2 := Lib.hid hd2
          by_cases hov : room < x
          · have HS := Lib.hid (show fillM xs m k0 room = fillM xs (n - (k + 1)) (k + 1) room by rw [HD2.out, HF.out, HD.out]; exact fillM_over hz HX.out hov)
            clear hd hd2
            go_wp2
            go_roundw
            case rel => exact ⟨k + 1, by omega, by omega, by go_num, hb, HS.out⟩
            case measure => simp [intOf]; omega
          · have hov' : decide (room < x) = false := decide_eq_false hov
            have hih := IH.out d (by omega) (k + 1) (room - x) wr (by omega) (by omega) hsw (by omega)
            have hcast : ((k + 1 : Nat) : Int) = (k : Int) + 1 := by omega
            rw [hcast] at hih
            have HI := Lib.hid hih
            clear hd hd2 hih hcast
            go_wp2_with fail
            refine HI.out.mono ?_
            rintro e w1 (⟨hr, rfl, hb1⟩ | ⟨ys, A', c', hr, rfl, hown, hb1⟩)
            · have HS := Lib.hid (show fillM xs m k0 room = fillM xs (n - (k + 1)) (k + 1) room by rw [HD2.out, HF.out, HD.out]; exact fillM_no hz HX.out hr)
              clear hr
              have hb2 := hb.trans (hb1.mono hsz)
              go_wp2
              go_roundw
              case rel => exact ⟨k + 1, by omega, by omega, by go_num, hb2, HS.out⟩
              case measure => simp [intOf]; omega
            · have HS := Lib.hid (show fillM xs m k0 room = some ((k : Int) :: ys) by rw [HF.out, HD.out]; exact fillM_yes hz HX.out (by omega) hr)
              have hyl : ys.length ≤ 9 := by have h1 := fillM_len hr; have h2 := HD.out; omega
              clear hr
              have hb2 := hb.trans (hb1.mono hsz)
              have hz1' := hb1.size
              have hlit := World.ownsRow_lit (base := w.heap.size) (e := 3) (size := 1) w1 #[.int .i64 (k : Int)] 1 (by omega) (by unfold maxLen; omega) rfl
              have hseg := (hown.below ((Below.refl _ _).alloc (Nat.le_refl _) (.cells #[.int .i64 (k : Int)] 3)) (Nat.le_refl _)).seg
              have HLIT := Lib.hid hlit
              have HSEG := Lib.hid hseg
              clear hlit hseg
              go_wp2_with (at_builtin; (refine wpList_append_seg _ rfl _ _ 39 rfl w.heap.size 3 i0 Try.underlying39 hi0 hz0 hz1 hz2 _ 1 _ rfl HLIT.out A' _ c' ys _ _ rfl rfl HSEG.out (by omega) (by simp; omega) ?_; intro v' w2 hown2 hgrow2; have hown3 : w2.ownsRow w.heap.size 3 1 v' ((k : Int) :: ys).length (((k : Int) :: ys).map (Value.int .i64)) := (by simpa [Nat.add_comm] using hown2); clear hown2; obtain ⟨A2, c2, rfl⟩ := ownsRow_form hown3))
              go_ret2
              have hb3 : Below w.heap.size w w2 := (hb2.alloc (by omega) _).grown hgrow2 (by simp; omega) (fun g hg => (HLIT.out.lt g hg).1)
              exact Or.inr ⟨_, A2, c2, HS.out, rfl, (ownsRow_own hown3).2, hb3⟩
        · obtain rfl : k = n := by omega
          have HS := Lib.hid (HF.out.trans (by rw [Nat.sub_self, fillM_end xs k hz]))
          go_wp2
          go_ret2
          exact Or.inl ⟨HS.out, rfl, hb⟩
end Go.Proofs.Ytoheoojpmndhoaa

namespace Go.Proofs.Ytoheoojpmndhoaa
set_option linter.unusedVariables false
open Go.RowKit

theorem sum_take (xs : List Int) {k : Nat} {u : Int} (h : xs[k]? = some u) : (xs.take k).sum + u = (xs.take (k + 1)).sum := by
  rw [take_snoc h]; simp

theorem sum_le (xs : List Int) (h : ∀ x ∈ xs, 1 ≤ x ∧ x ≤ 100) : (xs.length : Int) ≤ xs.sum ∧ xs.sum ≤ 100 * (xs.length : Int) := by
  induction xs with
  | nil => simp
  | cons x xs ih =>
    have h1 := h x List.mem_cons_self
    have h2 := ih (fun y hy => h y (List.mem_cons_of_mem _ hy))
    simp only [List.sum_cons, List.length_cons]
    omega

theorem sum_take_bd {xs : List Int} (h : goodB xs = true) (k : Nat) : 0 ≤ (xs.take k).sum ∧ (xs.take k).sum ≤ 900 := by
  obtain ⟨h1, h9, hx⟩ := goodB_at h
  have hl := sum_le (xs.take k) (fun x hx' => hx x (List.mem_of_mem_take hx'))
  have : (xs.take k).length ≤ 9 := by rw [List.length_take]; omega
  omega

theorem sum_bd {xs : List Int} (h : goodB xs = true) : 1 ≤ xs.sum ∧ xs.sum ≤ 900 := by
  obtain ⟨h1, h9, hx⟩ := goodB_at h
  have hl := sum_le xs hx
  omega

set_option maxHeartbeats 400000 in
theorem bxSum_any (A : Option Addr) (n c : Nat) (xs : List Int) (lo hi : Nat) (w : World) (hn : xs.length = n) (hs : Seg w lo hi A xs) (hg : goodB xs = true) :
    Calls Try.prog 115 #[.slice A n c] w fun e w' => e = .returned (.int .i64 xs.sum) ∧ w = w' := by
  have HN := Lib.hid hn
  have HG := Lib.hid hg
  have h9 : n ≤ 9 := by have := (goodB_at hg).2.1; omega
  clear hn hg
  go_enter Try.func115, Try.ntmps115
  go_wp2
  go_loop [3, 5, 8] (fun m _ i => ∃ k : Nat, k ≤ n ∧ i = .int .i64 k ∧ m = .int .i64 (xs.take k).sum) (fun _ _ i => n - (intOf i).toNat)
  case atStart => exact ⟨0, Nat.zero_le _, rfl, rfl⟩
  case round =>
    obtain ⟨k, hk, rfl, rfl⟩ := hrel
    have hsb := sum_take_bd HG.out k
    by_cases hlt : k < n
    · obtain ⟨b, off, u, rfl, _, _, hx, hc⟩ := hs.at_ (k := k) (by rw [HN.out]; exact hlt)
      have HM := Lib.hid (sum_take xs hx)
      have hu := (goodB_at HG.out).2.2 u (List.mem_of_getElem? hx)
      clear hx
      obtain ⟨q, hq⟩ : ∃ q, q = (xs.take k).sum := ⟨_, rfl⟩
      rw [← hq] at HM hsb ⊢
      clear hq
      go_wp2
      go_round
      case rel => exact ⟨k + 1, by omega, by go_num, by rw [← HM.out]⟩
      case measure => simp [intOf]; omega
    · obtain rfl : k = n := by omega
      go_wp2
      go_ret
      exact ⟨by rw [← HN.out, List.take_length]; rfl, rfl⟩

set_option maxHeartbeats 400000 in
theorem sumOf_any (A : Option Addr) (n c : Nat) (xs : List Int) (lo hi : Nat) (w : World) (hn : xs.length = n) (hs : Seg w lo hi A xs) (hg : goodB xs = true) :
    Calls Try.prog 108 #[.slice A n c] w fun e w' => e = .returned (.int .i64 xs.sum) ∧ w = w' := by
  have HN := Lib.hid hn
  have HG := Lib.hid hg
  have h9 : n ≤ 9 := by have := (goodB_at hg).2.1; omega
  clear hn hg
  go_enter Try.func108, Try.ntmps108
  go_wp2
  go_loop [3, 5, 8] (fun m _ i => ∃ k : Nat, k ≤ n ∧ i = .int .i64 k ∧ m = .int .i64 (xs.take k).sum) (fun _ _ i => n - (intOf i).toNat)
  case atStart => exact ⟨0, Nat.zero_le _, rfl, rfl⟩
  case round =>
    obtain ⟨k, hk, rfl, rfl⟩ := hrel
    have hsb := sum_take_bd HG.out k
    by_cases hlt : k < n
    · obtain ⟨b, off, u, rfl, _, _, hx, hc⟩ := hs.at_ (k := k) (by rw [HN.out]; exact hlt)
      have HM := Lib.hid (sum_take xs hx)
      have hu := (goodB_at HG.out).2.2 u (List.mem_of_getElem? hx)
      clear hx
      obtain ⟨q, hq⟩ : ∃ q, q = (xs.take k).sum := ⟨_, rfl⟩
      rw [← hq] at HM hsb ⊢
      clear hq
      go_wp2
      go_round
      case rel => exact ⟨k + 1, by omega, by go_num, by rw [← HM.out]⟩
      case measure => simp [intOf]; omega
    · obtain rfl : k = n := by omega
      go_wp2
      go_ret
      exact ⟨by rw [← HN.out, List.take_length]; rfl, rfl⟩
end Go.Proofs.Ytoheoojpmndhoaa

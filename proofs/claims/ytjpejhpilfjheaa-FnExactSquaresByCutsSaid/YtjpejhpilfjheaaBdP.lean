/-
  The kinds that boards are, the first cuts of values, and the pieces cut out; no program is spoken of here.
  Conditions: none.
-/
import Derived.Test.YtjpejhpilfjheaaBdE
namespace Go.Proofs.Ytjpejhpilfjheaa
set_option linter.unusedVariables false

/-- The first kind with this Value that a board is. -/
def kindK (ps : List (Int × Int × Int)) (tu : Bool) (a b : Nat) (v : Int) : Option Nat := ps.findIdx? fun p => isP a b p tu && p.2.2 == v
/-- The same, as a number, -1 for none. -/
def kindI (ps : List (Int × Int × Int)) (tu : Bool) (a b : Nat) (v : Int) : Int := match kindK ps tu a b v with
  | some k => (k : Int)
  | none => -1
theorem kindK_lt {ps : List (Int × Int × Int)} {tu : Bool} {a b : Nat} {v : Int} {k : Nat} (h : kindK ps tu a b v = some k) : k < ps.length := by
  obtain ⟨hk, _⟩ := List.findIdx?_eq_some_iff_getElem.1 h
  exact hk
/-- The first cut by which a value is come to. -/
def fcP (ps : List (Int × Int × Int)) (tu : Bool) (a b : Nat) : Option ((Nat × Nat) × (Nat × Nat)) :=
  if valB ps tu a b = 0 ∨ (kindK ps tu a b (valB ps tu a b)).isSome = true then none else fcut (valB ps tu) (valB ps tu a b) a b
theorem fcP_mem {ps : List (Int × Int × Int)} {tu : Bool} {a b : Nat} {c : (Nat × Nat) × (Nat × Nat)} (h : fcP ps tu a b = some c) : c ∈ cutsL a b ∧ sumT (valB ps tu) c = valB ps tu a b := by
  rw [fcP] at h
  split at h
  · cases h
  · exact fcut_mem h
theorem pcV_is {tu : Bool} {a b : Nat} (ps : List (Int × Int × Int)) : ∀ m : Int, ps.foldl (fun m p => if isP a b p tu then max m p.2.2 else m) m = m ∨ ∃ p ∈ ps, isP a b p tu = true ∧ p.2.2 = ps.foldl (fun m p => if isP a b p tu then max m p.2.2 else m) m := by
  induction ps with
  | nil => intro m; exact .inl rfl
  | cons p ps ih =>
    intro m
    simp only [List.foldl_cons]
    rcases ih (if isP a b p tu then max m p.2.2 else m) with h | ⟨q, hq, h1, h2⟩
    · rw [h]
      by_cases e : isP a b p tu = true
      · rw [if_pos e]
        by_cases e2 : p.2.2 ≤ m
        · left; omega
        · right; exact ⟨p, List.mem_cons_self, e, by omega⟩
      · rw [if_neg e]; left; rfl
    · right; exact ⟨q, List.mem_cons_of_mem _ hq, h1, h2⟩
/-- A value above nothing is that of a kind or is come to by a cut. -/
theorem come_to {ps : List (Int × Int × Int)} {tu : Bool} {a b : Nat} (ha : 1 ≤ a) (hb : 1 ≤ b) (h0 : 0 < valB ps tu a b) (hf : fcP ps tu a b = none) : ∃ k, kindK ps tu a b (valB ps tu a b) = some k := by
  cases hk : kindK ps tu a b (valB ps tu a b) with
  | some k => exact ⟨k, rfl⟩
  | none =>
    exfalso
    rw [fcP, hk, if_neg (by simp; omega), fcut, List.find?_eq_none] at hf
    rw [kindK, List.findIdx?_eq_none_iff] at hk
    have hv := valB_eq ps tu ha hb
    rw [valI] at hv
    rcases mostL_mem ((cutsL a b).map (sumT (valB ps tu))) (pcV ps tu a b) with h | h
    · rw [h] at hv
      rcases pcV_is (tu := tu) (a := a) (b := b) ps 0 with h2 | ⟨p, hp, h1, h2⟩
      · rw [pcV, h2] at hv; omega
      · have := hk p hp
        rw [h1, Bool.true_and] at this
        rw [show p.2.2 = valB ps tu a b by rw [hv, pcV]; exact h2] at this
        simp at this
    · rw [← hv] at h
      obtain ⟨c, hc, e⟩ := List.mem_map.1 h
      exact hf c hc (by simp [e])

/-- The pieces cut out, counted on. -/
def cntR (ps : List (Int × Int × Int)) (tu : Bool) : Nat → Nat → Nat → List Int → List Int
  | 0, _, _, ks => ks
  | n + 1, a, b, ks => match fcP ps tu a b with
    | some c => cntR ps tu n c.2.1 c.2.2 (cntR ps tu n c.1.1 c.1.2 ks)
    | none => if 0 < valB ps tu a b then (match kindK ps tu a b (valB ps tu a b) with
      | some i => ks.set i (ks.getD i 0 + 1)
      | none => ks) else ks
def cntF (ps : List (Int × Int × Int)) (tu : Bool) (a b : Nat) (ks : List Int) : List Int := cntR ps tu (a + b) a b ks
theorem cntR_same (ps : List (Int × Int × Int)) (tu : Bool) : ∀ n m a b ks, 1 ≤ a → 1 ≤ b → a + b ≤ n → a + b ≤ m → cntR ps tu n a b ks = cntR ps tu m a b ks := by
  intro n
  induction n with
  | zero => intro m a b ks ha _ h; omega
  | succ n ih =>
    intro m a b ks ha hb h1 h2
    cases m with
    | zero => omega
    | succ m =>
      simp only [cntR]
      cases e : fcP ps tu a b with
      | none => rfl
      | some c =>
        have hc := cut_less (fcP_mem e).1 ha hb
        simp only []
        rw [ih m c.1.1 c.1.2 ks hc.1.1 hc.1.2.1 (by omega) (by omega), ih m c.2.1 c.2.2 _ hc.2.1 hc.2.2.1 (by omega) (by omega)]
theorem cntF_cut {ps : List (Int × Int × Int)} {tu : Bool} {a b : Nat} (ha : 1 ≤ a) (hb : 1 ≤ b) {c : (Nat × Nat) × (Nat × Nat)} (hc : fcP ps tu a b = some c) (ks : List Int) : cntF ps tu a b ks = cntF ps tu c.2.1 c.2.2 (cntF ps tu c.1.1 c.1.2 ks) := by
  have hl := cut_less (fcP_mem hc).1 ha hb
  rw [cntF, show a + b = (a + b - 1) + 1 by omega, cntR, hc]
  simp only [cntF]
  rw [cntR_same ps tu (a + b - 1) _ _ _ _ hl.1.1 hl.1.2.1 (by omega) (Nat.le_refl _), cntR_same ps tu (a + b - 1) _ _ _ _ hl.2.1 hl.2.2.1 (by omega) (Nat.le_refl _)]
theorem cntF_kind {ps : List (Int × Int × Int)} {tu : Bool} {a b : Nat} (ha : 1 ≤ a) (hb : 1 ≤ b) (hc : fcP ps tu a b = none) (h0 : 0 < valB ps tu a b) {i : Nat} (hi : kindK ps tu a b (valB ps tu a b) = some i) (ks : List Int) : cntF ps tu a b ks = ks.set i (ks.getD i 0 + 1) := by
  rw [cntF, show a + b = (a + b - 1) + 1 by omega, cntR, hc]
  simp only [if_pos h0, hi]
theorem cntF_no {ps : List (Int × Int × Int)} {tu : Bool} {a b : Nat} (ha : 1 ≤ a) (hb : 1 ≤ b) (hc : fcP ps tu a b = none) (h0 : ¬ 0 < valB ps tu a b) (ks : List Int) : cntF ps tu a b ks = ks := by
  rw [cntF, show a + b = (a + b - 1) + 1 by omega, cntR, hc]
  simp only [if_neg h0]
/-- Counts that leave room for so many more. -/
def CntOk (n : Nat) (M : Int) (ks : List Int) : Prop := ks.length = n ∧ ∀ k ∈ ks, 0 ≤ k ∧ k ≤ M
theorem cntF_ok (ps : List (Int × Int × Int)) (tu : Bool) : ∀ n a b ks M, a + b ≤ n → 1 ≤ a → 1 ≤ b → 0 ≤ M → CntOk ps.length M ks → CntOk ps.length (M + ((a * b : Nat) : Int)) (cntF ps tu a b ks) := by
  intro n
  induction n with
  | zero => intro a b ks M h ha; omega
  | succ n ih =>
    intro a b ks M h ha hb hM hk
    have hp := prod_posB ha hb
    cases e : fcP ps tu a b with
    | some c =>
      have hm := (fcP_mem e).1
      have hl := cut_less hm ha hb
      have h1 := ih c.1.1 c.1.2 ks M (by omega) hl.1.1 hl.1.2.1 hM hk
      have h2 := ih c.2.1 c.2.2 _ _ (by omega) hl.2.1 hl.2.2.1 (by omega) h1
      rw [cntF_cut ha hb e]
      have e2 : M + ((c.1.1 * c.1.2 : Nat) : Int) + ((c.2.1 * c.2.2 : Nat) : Int) = M + ((a * b : Nat) : Int) := by
        rcases mem_cutsL.1 hm with ⟨k, k1, k2, rfl⟩ | ⟨k, k1, k2, rfl⟩
        · have : a * b = k * b + (a - k) * b := by rw [← Nat.add_mul]; congr 1; omega
          rw [this]; push_cast; omega
        · have : a * b = a * k + a * (b - k) := by rw [← Nat.mul_add]; congr 1; omega
          rw [this]; push_cast; omega
      rw [e2] at h2
      exact h2
    | none =>
      by_cases h0 : 0 < valB ps tu a b
      · obtain ⟨i, hi⟩ := come_to ha hb h0 e
        rw [cntF_kind ha hb e h0 hi]
        refine ⟨by simpa using hk.1, fun k hk2 => ?_⟩
        rcases List.mem_or_eq_of_mem_set hk2 with h3 | rfl
        · have := hk.2 k h3; omega
        · have hil : i < ks.length := by rw [hk.1]; exact kindK_lt hi
          have := hk.2 (ks.getD i 0) (by simp [List.getD, hil])
          omega
      · rw [cntF_no ha hb e h0]
        exact ⟨hk.1, fun k hk2 => by have := hk.2 k hk2; omega⟩
/-- The pieces of each kind that are cut out. -/
def cntL (ps : List (Int × Int × Int)) (tu : Bool) (a b : Nat) : List Int := cntF ps tu a b (List.replicate ps.length 0)
theorem cnt_zero (n : Nat) : CntOk n 0 (List.replicate n 0) := ⟨by simp, fun k hk => by obtain rfl := List.eq_of_mem_replicate hk; omega⟩
theorem cntL_ok (ps : List (Int × Int × Int)) (tu : Bool) {a b : Nat} (ha : 1 ≤ a) (hb : 1 ≤ b) : CntOk ps.length ((a * b : Nat) : Int) (cntL ps tu a b) := by
  have h := cntF_ok ps tu _ a b (List.replicate ps.length 0) 0 (Nat.le_refl _) ha hb (by omega) (cnt_zero _)
  rwa [Int.zero_add] at h
/-- What so many kinds are of the board. -/
def usedK (ps : List (Int × Int × Int)) (cs : List Int) : Nat → Int
  | 0 => 0
  | k + 1 => usedK ps cs k + cs.getD k 0 * ((ps.getD k (0, 0, 0)).1 * (ps.getD k (0, 0, 0)).2.1)
end Go.Proofs.Ytjpejhpilfjheaa

/-
  Words, numerals and texts as lists of bytes: cutting and joining undo each other; so do reading and writing a number.
  Conditions: none.
-/
import Derived.Test.YtoheoojpmndhoabDoorTxTakes
namespace Go.Proofs.YtoheoojpmndhoabDoor
set_option linter.unusedVariables false
open Go.RowKit

/-- A list of bytes, cut at each of a sign. -/
def segs (b : UInt8) : List UInt8 → List (List UInt8)
  | [] => [[]]
  | c :: r => if c = b then [] :: segs b r else match segs b r with
    | [] => [[c]]
    | h :: t => (c :: h) :: t

theorem segs_cut {b : UInt8} {p r : List UInt8} (h : b ∉ p) : segs b (p ++ b :: r) = p :: segs b r := by
  induction p with
  | nil => simp [segs]
  | cons c p ih =>
    have hc : c ≠ b := fun e => h (by simp [e])
    have hp : b ∉ p := fun e => h (List.mem_cons_of_mem _ e)
    simp [segs, hc, ih hp]

theorem segs_none {b : UInt8} {p : List UInt8} (h : b ∉ p) : segs b p = [p] := by
  induction p with
  | nil => rfl
  | cons c p ih =>
    have hc : c ≠ b := fun e => h (by simp [e])
    have hp : b ∉ p := fun e => h (List.mem_cons_of_mem _ e)
    simp [segs, hc, ih hp]

theorem segs_ne (b : UInt8) (l : List UInt8) : segs b l ≠ [] := by
  cases l with
  | nil => simp [segs]
  | cons c r =>
    simp only [segs]
    split
    · simp
    · split <;> simp

theorem segs_join (b : UInt8) (l : List UInt8) : Lib.join (segs b l) [b] = l := by
  induction l with
  | nil => rfl
  | cons c r ih =>
    simp only [segs]
    have hne := segs_ne b r
    cases hs : segs b r with
    | nil => exact absurd hs hne
    | cons x t =>
      rw [hs, Lib.join_cons] at ih
      split
      · rename_i hc
        rw [Lib.join_cons, List.nil_append, ← ih, hc]
        simp [Lib.joinTail]
      · simp only
        rw [Lib.join_cons, List.cons_append, ih]

theorem join_segs {b : UInt8} {ws : List (List UInt8)} (hne : ws ≠ []) (h : ∀ x ∈ ws, b ∉ x) : segs b (Lib.join ws [b]) = ws := by
  induction ws with
  | nil => exact absurd rfl hne
  | cons x r ih =>
    cases r with
    | nil => rw [Lib.join_one]; exact segs_none (h x (List.mem_cons_self ..))
    | cons y t =>
      have h1 := ih (by simp) (fun z hz => h z (List.mem_cons_of_mem _ hz))
      have e : Lib.join (x :: y :: t) [b] = x ++ b :: Lib.join (y :: t) [b] := by
        rw [Lib.join_cons, Lib.join_cons]
        simp [Lib.joinTail]
      rw [e, segs_cut (h x (List.mem_cons_self ..)), h1]

theorem runSt_segs (b : UInt8) (s : ByteArray) : ∀ k, k ≤ s.size →
    (runSt b s k).1.map (·.data.toList) ++ segs b (s.data.toList.drop (runSt b s k).2) = segs b s.data.toList ∧ ∀ j, (runSt b s k).2 ≤ j → j < k → s.data.toList[j]? ≠ some b := by
  have hsl : s.data.toList.length = s.size := by rw [Array.length_toList]; rfl
  intro k
  induction k with
  | zero => intro _; exact ⟨rfl, fun j _ hj => by omega⟩
  | succ k ih =>
    intro hk
    obtain ⟨h1, h2⟩ := ih (by omega)
    have hbd := (runSt_bd b s k).1
    rw [runSt, stepSt]
    split
    · rename_i hc
      refine ⟨?_, fun j hj hj2 => by dsimp only at hj; omega⟩
      dsimp only
      rw [← h1, List.map_append, List.append_assoc]
      congr 1
      have hlt : k < s.data.toList.length := by omega
      have e : s.data.toList.drop (runSt b s k).2 = (s.data.toList.drop (runSt b s k).2).take (k - (runSt b s k).2) ++ b :: s.data.toList.drop (k + 1) := by
        conv => lhs; rw [← List.take_append_drop (k - (runSt b s k).2) (s.data.toList.drop (runSt b s k).2)]
        congr 1
        rw [List.drop_drop, show (runSt b s k).2 + (k - (runSt b s k).2) = k by omega, List.drop_eq_getElem_cons hlt]
        congr 1
        have := List.getElem?_eq_getElem hlt
        rw [hc] at this
        injection this with this
        exact this.symm
      rw [e, segs_cut]
      · simp only [List.map_cons, List.map_nil, List.cons_append, List.nil_append]
        congr 1
        rw [Go.Lib.extract_data]
      · intro hmem
        obtain ⟨i, hi⟩ := List.getElem?_of_mem hmem
        have hi2 := (List.getElem?_eq_some_iff.1 hi).1
        rw [List.length_take, List.length_drop] at hi2
        rw [List.getElem?_take_of_lt (by omega), List.getElem?_drop] at hi
        exact h2 _ (by omega) (by omega) hi
    · rename_i hc
      refine ⟨h1, fun j hj hj2 => ?_⟩
      by_cases e : j = k
      · subst e; exact hc
      · exact h2 j hj (by omega)

theorem splitW_segs (b : UInt8) (s : ByteArray) : (splitW b s).map (·.data.toList) = segs b s.data.toList := by
  have hsl : s.data.toList.length = s.size := by rw [Array.length_toList]; rfl
  obtain ⟨h1, h2⟩ := runSt_segs b s s.size (Nat.le_refl _)
  rw [← h1, splitW, List.map_append]
  congr 1
  rw [segs_none]
  · simp only [List.map_cons, List.map_nil]
    congr 1
    rw [Go.Lib.extract_data, List.take_of_length_le]
    rw [List.length_drop]
    omega
  · intro hmem
    obtain ⟨i, hi⟩ := List.getElem?_of_mem hmem
    have hi2 := (List.getElem?_eq_some_iff.1 hi).1
    rw [List.length_drop] at hi2
    rw [List.getElem?_drop] at hi
    exact h2 _ (by omega) (by omega) hi

/-! Numerals -/

theorem read_small : ∀ x : Fin 101, readL (Lib.decDigits x.val) = (x.val : Int) := by decide +kernel
theorem dash_small : ∀ x : Fin 101, (Lib.decDigits x.val).all (fun c => c != 45) = true ∧ (Lib.decDigits x.val).length ≤ 3 := by decide +kernel
theorem atoi_small : ∀ x : Fin 101, atoiO ⟨(Lib.decDigits x.val).toArray⟩ = some (x.val : Int) := by decide +kernel

theorem read_back (n : Nat) : ∀ l : List UInt8, l.length = n + 1 → (∀ c ∈ l, digB c = true) → l[0]? ≠ some 48 → 1 ≤ valL l ∧ Lib.decDigits (valL l).toNat = l := by
  induction n with
  | zero =>
    intro l hl hd h0
    match l, hl with
    | [c], _ =>
      have hc := digB_true.1 (hd c (by simp))
      have hne : c.toNat ≠ 48 := fun e => h0 (by simp; exact UInt8.toNat_inj.1 e)
      have e : valL [c] = (c.toNat : Int) - 48 := by simp [valL]
      rw [e]
      refine ⟨by omega, ?_⟩
      rw [Lib.decDigits_one (by omega), show 48 + ((c.toNat : Int) - 48).toNat = c.toNat by omega]
      simp
  | succ n ih =>
    intro l hl hd h0
    obtain ⟨r, c, rfl⟩ : ∃ r c, l = r ++ [c] := ⟨l.dropLast, l.getLast (by intro e; simp [e] at hl), (List.dropLast_concat_getLast _).symm⟩
    have hrl : r.length = n + 1 := by simpa using hl
    have hc := digB_true.1 (hd c (by simp))
    have h1 := ih r hrl (fun d hdm => hd d (List.mem_append_left _ hdm)) (by rw [List.getElem?_append_left (by omega)] at h0; exact h0)
    have e : valL (r ++ [c]) = 10 * valL r + ((c.toNat : Int) - 48) := by simp [valL]
    rw [e]
    refine ⟨by omega, ?_⟩
    rw [Lib.decDigits, dif_neg (by omega), show (10 * valL r + ((c.toNat : Int) - 48)).toNat / 10 = (valL r).toNat by omega, h1.2, show 48 + (10 * valL r + ((c.toNat : Int) - 48)).toNat % 10 = c.toNat by omega]
    simp

theorem read_num {l : List UInt8} (h : 1 ≤ readL l) : Lib.decDigits (readL l).toNat = l := by
  unfold readL at h ⊢
  split at h
  · rename_i hg
    rw [if_pos hg]
    obtain ⟨hf, hall⟩ := Bool.and_eq_true_iff.1 hg
    obtain ⟨hin, hz⟩ := Bool.and_eq_true_iff.1 hf
    have hlen := inB_true.1 hin
    have hd := List.all_eq_true.1 hall
    by_cases h0 : l[0]? = some 48
    · exfalso
      have h1 : ¬ 1 < l.length := by simpa [h0] using hz
      match l, h0, h1, hlen with
      | [c], h0, _, _ =>
        simp at h0
        subst h0
        simp [valL] at h
    · exact (read_back (l.length - 1) l (by omega) hd h0).2
  · omega
end Go.Proofs.YtoheoojpmndhoabDoor

/-
  Both programs take the same texts for things, and read the same things.
  Conditions: none.
-/
import Derived.Test.YtoheoojpmndhoabDoorTxPure
import Derived.Test.YtoheoojpmndhoabDoorTxRows
import Derived.Lib.IndexBytes
namespace Go.Proofs.YtoheoojpmndhoabDoor
set_option linter.unusedVariables false
open Go.RowKit

theorem idx_cut {b : UInt8} {x r : List UInt8} (h : b ∉ x) : Lib.indexByte (x ++ b :: r) b = (x.length : Int) := by
  induction x with
  | nil => simp [Lib.indexByte]
  | cons c x ih =>
    have hc : (c == b) = false := by simpa using fun e => h (by simp [e])
    have h1 := ih (fun e => h (List.mem_cons_of_mem _ e))
    have hne : ((x.length : Int) == -1) = false := by simp
    rw [List.cons_append, Lib.indexByte, hc, h1, hne]
    simp

theorem idx_none {b : UInt8} {x : List UInt8} (h : b ∉ x) : Lib.indexByte x b = -1 := by
  induction x with
  | nil => rfl
  | cons c x ih =>
    have hc : (c == b) = false := by simpa using fun e => h (by simp [e])
    have h1 := ih (fun e => h (List.mem_cons_of_mem _ e))
    rw [Lib.indexByte, hc, h1]
    rfl

theorem splitK_join {b : UInt8} {ws : List (List UInt8)} (hne : ws ≠ []) (h : ∀ x ∈ ws, b ∉ x) : ∀ k, ws.length ≤ k + 1 → Lib.splitK [b] 0 k (Lib.join ws [b]) = ws := by
  induction ws with
  | nil => exact absurd rfl hne
  | cons x r ih =>
    intro k hk
    have hx := h x (List.mem_cons_self ..)
    cases r with
    | nil =>
      rw [Lib.join_one]
      cases k with
      | zero => rfl
      | succ k => rw [Lib.splitK, Lib.index_one, idx_none hx]; rfl
    | cons y t =>
      obtain ⟨k, rfl⟩ : ∃ j, k = j + 1 := ⟨k - 1, by simp at hk; omega⟩
      have h1 := ih (by simp) (fun z hz => h z (List.mem_cons_of_mem _ hz)) k (by simp at hk ⊢; omega)
      have e : Lib.join (x :: y :: t) [b] = x ++ b :: Lib.join (y :: t) [b] := by
        rw [Lib.join_cons, Lib.join_cons]
        simp [Lib.joinTail]
      have hne2 : ((x.length : Int) == -1) = false := by simp
      rw [e, Lib.splitK, Lib.index_one, idx_cut hx, hne2]
      simp only [Bool.false_eq_true, if_false, Int.toNat_natCast, Nat.add_zero, List.length_cons, List.length_nil, Nat.zero_add]
      rw [List.take_left, ← List.drop_drop, List.drop_left]
      simp [h1]

/-- The words of a text of numbers. -/
def wordsL (xs : List Int) : List (List UInt8) := xs.map fun x => Lib.decDigits x.toNat

theorem text_join (xs : List Int) : (textS 45 xs).data.toList = Lib.join (wordsL xs) [45] := by
  rw [← join_text, List.map_map]
  rfl

theorem small_of {xs : List Int} (h : goodB xs = true) {x : Int} (hx : x ∈ xs) : ∃ i : Fin 101, x = (i.val : Int) ∧ 1 ≤ x := by
  have h2 := (goodB_true.1 h).2
  unfold allB at h2
  have := inB_true.1 (List.all_eq_true.1 h2 x hx)
  exact ⟨⟨x.toNat, by omega⟩, by simp; (try omega), by omega⟩

theorem words_plain {xs : List Int} (h : goodB xs = true) : ∀ l ∈ wordsL xs, (45 : UInt8) ∉ l := by
  intro l hl hm
  obtain ⟨x, hx, rfl⟩ := List.mem_map.1 hl
  obtain ⟨i, rfl, _⟩ := small_of h hx
  have := List.all_eq_true.1 (dash_small i).1 45 (by simpa using hm)
  simp at this

theorem good_len {xs : List Int} (h : goodB xs = true) : 1 ≤ xs.length ∧ xs.length ≤ 9 := by
  have := inB_true.1 (goodB_true.1 h).1
  omega

theorem words_ne {xs : List Int} (h : goodB xs = true) : wordsL xs ≠ [] := by
  intro e
  have := (good_len h).1
  have e2 : (wordsL xs).length = 0 := by rw [e]; rfl
  rw [wordsL, List.length_map] at e2
  omega

theorem numsOf_text {xs : List Int} (h : goodB xs = true) : numsOf 45 (textS 45 xs) = xs := by
  have e : numsOf 45 (textS 45 xs) = ((splitW 45 (textS 45 xs)).map (·.data.toList)).map readL := by rw [numsOf, List.map_map]; rfl
  rw [e, splitW_segs, text_join, join_segs (words_ne h) (words_plain h), wordsL, List.map_map]
  conv => rhs; rw [← List.map_id xs]
  refine List.map_congr_left fun x hx => ?_
  obtain ⟨i, rfl, _⟩ := small_of h hx
  simpa using read_small i

theorem size_list (s : ByteArray) : s.data.toList.length = s.size := by rw [Array.length_toList]; rfl

theorem join_ge (ws : List (List UInt8)) : ws.length ≤ (Lib.join ws [45]).length + 1 := by
  cases ws with
  | nil => simp
  | cons x r => rw [Lib.join_length]; simp; (try omega)

theorem cut_text {xs : List Int} (h : goodB xs = true) : (cutN 45 9 (textS 45 xs)).map (·.data.toList) = wordsL xs := by
  have hl := good_len h
  have hw : (wordsL xs).length = xs.length := by rw [wordsL, List.length_map]
  have hg := join_ge (wordsL xs)
  rw [← text_join, size_list] at hg
  rw [cutN, Lib.splitB_data, text_join]
  exact splitK_join (words_ne h) (words_plain h) _ (by omega)

theorem atoi_word {x : ByteArray} {i : Fin 101} (h : x.data.toList = Lib.decDigits i.val) : atoiO x = some (i.val : Int) := by
  have := atoi_small i
  unfold atoiO at this ⊢
  rw [h]
  exact this

theorem cut_num {xs : List Int} (h : goodB xs = true) : allNum (cutN 45 9 (textS 45 xs)) = true ∧ numsA (cutN 45 9 (textS 45 xs)) = xs := by
  have hc := cut_text h
  generalize cutN 45 9 (textS 45 xs) = ws at hc
  have hat : ∀ (j : Nat) x, ws[j]? = some x → ∃ v, xs[j]? = some v ∧ atoiO x = some v := by
    intro j x hj
    have h1 : (ws.map (·.data.toList))[j]? = some x.data.toList := by rw [List.getElem?_map, hj]; rfl
    rw [hc, wordsL, List.getElem?_map] at h1
    cases hv : xs[j]? with
    | none => rw [hv] at h1; cases h1
    | some v =>
      rw [hv] at h1
      obtain ⟨i, rfl, _⟩ := small_of h (List.mem_of_getElem? hv)
      refine ⟨_, rfl, atoi_word (i := i) ?_⟩
      injection h1 with h1
      rw [← h1]
      simp
  have hlen : ws.length = xs.length := by
    have := congrArg List.length hc
    rwa [List.length_map, wordsL, List.length_map] at this
  refine ⟨List.all_eq_true.2 fun x hx => ?_, List.ext_getElem? fun j => ?_⟩
  · obtain ⟨j, hj⟩ := List.getElem?_of_mem hx
    obtain ⟨v, _, hv⟩ := hat j x hj
    rw [hv]; rfl
  · rw [numsA, List.getElem?_map]
    cases hj : ws[j]? with
    | none =>
      have := List.getElem?_eq_none_iff.1 hj
      rw [List.getElem?_eq_none (by omega)]
      rfl
    | some x =>
      obtain ⟨v, hv, ha⟩ := hat j x hj
      simp [hv, ha]

theorem text_of {s : ByteArray} (h : goodB (numsOf 45 s) = true) : textS 45 (numsOf 45 s) = s := by
  apply ByteArray.ext
  apply Array.toList_inj.1
  have e : wordsL (numsOf 45 s) = segs 45 s.data.toList := by
    rw [← splitW_segs, wordsL, numsOf, List.map_map]
    refine List.map_congr_left fun x hx => ?_
    obtain ⟨i, hi, h1⟩ := small_of h (List.mem_map.2 ⟨x, hx, rfl⟩)
    exact read_num h1
  rw [text_join, e, segs_join]

theorem text_small {xs : List Int} (h : goodB xs = true) : (textS 45 xs).size ≤ 40 := by
  have e := join_text 45 xs
  rw [joinB_text] at e
  have h1 := joinB_size 45 (xs.map numS) 3 (fun s hs => by
    obtain ⟨x, hx, rfl⟩ := List.mem_map.1 hs
    obtain ⟨i, rfl, _⟩ := small_of h hx
    have := (dash_small i).2
    rw [← size_list]
    simpa [numS] using this)
  have h2 := good_len h
  rw [List.length_map] at h1
  rw [← size_list, ← e, size_list]
  omega

theorem parse_same (s : ByteArray) : takesB s = thingB s ∧ (thingB s = true → numsA (cutN 45 9 s) = numsOf 45 s) := by
  by_cases h : thingB s = true
  · have hg : goodB (numsOf 45 s) = true := (Bool.and_eq_true_iff.1 h).2
    have ht := text_of hg
    have hc := cut_num hg
    rw [ht] at hc
    refine ⟨?_, fun _ => hc.2⟩
    rw [h, takes_eq hc.1 (by rw [hc.2]; exact hg), hc.2, ht]
    simp
  · refine ⟨?_, fun e => absurd e h⟩
    have hf : thingB s = false := by simpa using h
    rw [hf]
    cases hk : takesB s with
    | false => rfl
    | true =>
      exfalso
      obtain ⟨ha, hb⟩ := Bool.and_eq_true_iff.1 hk
      obtain ⟨hg, he⟩ := Bool.and_eq_true_iff.1 hb
      have hs : textS 45 (numsA (cutN 45 9 s)) = s := by
        apply ByteArray.ext
        apply Array.toList_inj.1
        have := beq_iff_eq.1 he
        rw [ByteArray.toList_eq, ByteArray.toList_eq] at this
        exact this
      apply h
      have hn := numsOf_text hg
      have hz := text_small hg
      rw [hs] at hn hz
      rw [thingB, hn, hg, decide_eq_true hz]
      rfl

theorem piece_size (sep : ByteArray) : ∀ (k : Nat) (s : ByteArray), ∀ x ∈ Lib.splitB sep 0 k s, x.size ≤ s.size
  | 0, s, x, hx => by
    obtain rfl := List.mem_singleton.1 hx
    exact Nat.le_refl _
  | k + 1, s, x, hx => by
    unfold Lib.splitB at hx
    split at hx
    · obtain rfl := List.mem_singleton.1 hx
      exact Nat.le_refl _
    · rcases List.mem_cons.1 hx with rfl | hx
      · rw [ByteArray.size_extract]; omega
      · have := piece_size sep k _ x hx
        rw [ByteArray.size_extract] at this
        omega
end Go.Proofs.YtoheoojpmndhoabDoor

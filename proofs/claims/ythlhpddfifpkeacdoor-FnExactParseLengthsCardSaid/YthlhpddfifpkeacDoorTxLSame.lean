/-
  Both programs take the same texts for lengths, and read the same lengths.
  Conditions: none.
-/
import Derived.Test.YthlhpddfifpkeacDoorTxSame
import Derived.Test.YthlhpddfifpkeacDoorTxPN
namespace Go.Proofs.YthlhpddfifpkeacDoor
set_option linter.unusedVariables false
open Go.RowKit

theorem dash_smallL : ∀ x : Fin 101, (Lib.decDigits x.val).all (fun c => c != 44) = true ∧ (Lib.decDigits x.val).length ≤ 3 := by decide +kernel

theorem text_joinL (xs : List Int) : (textS 44 xs).data.toList = Lib.join (wordsL xs) [44] := by
  rw [← join_text, List.map_map]
  rfl

theorem small_ofL {xs : List Int} (h : lensB xs = true) {x : Int} (hx : x ∈ xs) : ∃ i : Fin 101, x = (i.val : Int) ∧ 1 ≤ x := by
  obtain ⟨k, hk⟩ := List.getElem?_of_mem hx
  have := (lensB_at h).2.2 k x hk
  exact ⟨⟨x.toNat, by omega⟩, by simp; (try omega), by omega⟩

theorem words_plainL {xs : List Int} (h : lensB xs = true) : ∀ l ∈ wordsL xs, (44 : UInt8) ∉ l := by
  intro l hl hm
  obtain ⟨x, hx, rfl⟩ := List.mem_map.1 hl
  obtain ⟨i, rfl, _⟩ := small_ofL h hx
  have := List.all_eq_true.1 (dash_smallL i).1 44 (by simpa using hm)
  simp at this

theorem good_lenL {xs : List Int} (h : lensB xs = true) : 1 ≤ xs.length ∧ xs.length ≤ 4 := ⟨(lensB_at h).1, (lensB_at h).2.1⟩

theorem words_neL {xs : List Int} (h : lensB xs = true) : wordsL xs ≠ [] := by
  intro e
  have := (good_lenL h).1
  have e2 : (wordsL xs).length = 0 := by rw [e]; rfl
  rw [wordsL, List.length_map] at e2
  omega

theorem numsOf_textL {xs : List Int} (h : lensB xs = true) : numsOf 44 (textS 44 xs) = xs := by
  have e : numsOf 44 (textS 44 xs) = ((splitW 44 (textS 44 xs)).map (·.data.toList)).map readL := by rw [numsOf, List.map_map]; rfl
  rw [e, splitW_segs, text_joinL, join_segs (words_neL h) (words_plainL h), wordsL, List.map_map]
  conv => rhs; rw [← List.map_id xs]
  refine List.map_congr_left fun x hx => ?_
  obtain ⟨i, rfl, _⟩ := small_ofL h hx
  simpa using read_small i

theorem join_geL (ws : List (List UInt8)) : ws.length ≤ (Lib.join ws [44]).length + 1 := by
  cases ws with
  | nil => simp
  | cons x r => rw [Lib.join_length]; simp; (try omega)

theorem cut_textL {xs : List Int} (h : lensB xs = true) : (cutN 44 4 (textS 44 xs)).map (·.data.toList) = wordsL xs := by
  have hl := good_lenL h
  have hw : (wordsL xs).length = xs.length := by rw [wordsL, List.length_map]
  have hg := join_geL (wordsL xs)
  rw [← text_joinL, size_list] at hg
  rw [cutN, Lib.splitB_data, text_joinL]
  exact splitK_join (words_neL h) (words_plainL h) _ (by omega)

theorem cut_numL {xs : List Int} (h : lensB xs = true) : allNum (cutN 44 4 (textS 44 xs)) = true ∧ numsA (cutN 44 4 (textS 44 xs)) = xs := by
  have hc := cut_textL h
  generalize cutN 44 4 (textS 44 xs) = ws at hc
  have hat : ∀ (j : Nat) x, ws[j]? = some x → ∃ v, xs[j]? = some v ∧ atoiO x = some v := by
    intro j x hj
    have h1 : (ws.map (·.data.toList))[j]? = some x.data.toList := by rw [List.getElem?_map, hj]; rfl
    rw [hc, wordsL, List.getElem?_map] at h1
    cases hv : xs[j]? with
    | none => rw [hv] at h1; cases h1
    | some v =>
      rw [hv] at h1
      obtain ⟨i, rfl, _⟩ := small_ofL h (List.mem_of_getElem? hv)
      refine ⟨_, rfl, atoi_word (i := i) ?_⟩
      injection h1 with h1
      rw [← h1]
      simp
  have hlen : ws.length = xs.length := by
    have := congrArg List.length hc
    rwa [List.length_map, wordsL, List.length_map] at this
  refine ⟨List.all_eq_true.2 fun x hx => ?_, List.ext_getElem? fun j => ?_⟩
  · obtain ⟨j, hj⟩ := List.getElem?_of_mem hx
    obtain ⟨v, _, hv⟩ := hat j x hj
    rw [hv]; rfl
  · rw [numsA, List.getElem?_map]
    cases hj : ws[j]? with
    | none =>
      have := List.getElem?_eq_none_iff.1 hj
      rw [List.getElem?_eq_none (by omega)]
      rfl
    | some x =>
      obtain ⟨v, hv, ha⟩ := hat j x hj
      simp [hv, ha]

theorem text_smallL {xs : List Int} (h : lensB xs = true) : (textS 44 xs).size ≤ 20 := by
  have e := join_text 44 xs
  rw [joinB_text] at e
  have h1 := joinB_size 44 (xs.map numS) 3 (fun s hs => by
    obtain ⟨x, hx, rfl⟩ := List.mem_map.1 hs
    obtain ⟨i, rfl, _⟩ := small_ofL h hx
    have := (dash_smallL i).2
    rw [← size_list]
    simpa [numS] using this)
  have h2 := good_lenL h
  rw [List.length_map] at h1
  rw [← size_list, ← e, size_list]
  omega

theorem toList_same {s t : ByteArray} (h : (s.toList == t.toList) = true) : s = t := by
  apply ByteArray.ext
  apply Array.toList_inj.1
  have := beq_iff_eq.1 h
  rw [ByteArray.toList_eq, ByteArray.toList_eq] at this
  exact this

theorem parseL_same (s : ByteArray) : takesLB s = lengthT s ∧ (lengthT s = true → numsA (cutN 44 4 s) = numsOf 44 s) := by
  by_cases h : lengthT s = true
  · obtain ⟨_, hb⟩ := Bool.and_eq_true_iff.1 h
    obtain ⟨hg, he⟩ := Bool.and_eq_true_iff.1 hb
    have ht := toList_same he
    have hc := cut_numL hg
    rw [ht] at hc
    refine ⟨?_, fun _ => hc.2⟩
    rw [h, takesL_eq hc.1 (by rw [hc.2]; exact hg), hc.2, ht]
    simp
  · refine ⟨?_, fun e => absurd e h⟩
    have hf : lengthT s = false := by simpa using h
    rw [hf]
    cases hk : takesLB s with
    | false => rfl
    | true =>
      exfalso
      obtain ⟨ha, hb⟩ := Bool.and_eq_true_iff.1 hk
      obtain ⟨hg, he⟩ := Bool.and_eq_true_iff.1 hb
      have hs := toList_same he
      apply h
      have hn := numsOf_textL hg
      have hz := text_smallL hg
      rw [hs] at hn hz
      rw [lengthT, hn, hg, decide_eq_true hz, hs]
      simp
end Go.Proofs.YthlhpddfifpkeacDoor

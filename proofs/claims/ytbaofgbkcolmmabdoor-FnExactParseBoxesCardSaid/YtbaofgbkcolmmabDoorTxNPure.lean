/-
  Both programs take the same texts for boxes, and read the same boxes.
  Conditions: none.
-/
import Derived.Test.YtbaofgbkcolmmabDoorTxSame
import Derived.Test.YtbaofgbkcolmmabDoorTxBoxesAsk
namespace Go.Proofs.YtbaofgbkcolmmabDoor
set_option linter.unusedVariables false
open Go.RowKit

/-- The checking program's box of a word, and its boxes of a text. -/
def threeB (x : ByteArray) : Bool := decide ((splitW 120 x).length = 3)
def tripS (x : ByteArray) : Int × Int × Int := (readL ((splitW 120 x).getD 0 ⟨#[]⟩).data.toList, readL ((splitW 120 x).getD 1 ⟨#[]⟩).data.toList, readL ((splitW 120 x).getD 2 ⟨#[]⟩).data.toList)
def bxsS (s : ByteArray) : List (Int × Int × Int) := (splitW 44 s).map tripS
def boxT (s : ByteArray) : Bool := decide (s.size ≤ 70) && ((splitW 44 s).all threeB && goodN (bxsS s))

/-- The written program's. -/
def threeA (x : ByteArray) : Bool := allNum (cutN 120 3 x) && decide ((cutN 120 3 x).length = 3)
def tripA (x : ByteArray) : Int × Int × Int := ((numsA (cutN 120 3 x)).getD 0 0, (numsA (cutN 120 3 x)).getD 1 0, (numsA (cutN 120 3 x)).getD 2 0)
def bxsA (s : ByteArray) : List (Int × Int × Int) := (cutN 44 7 s).map tripA
def takesN (s : ByteArray) : Bool := (cutN 44 7 s).all threeA && (goodN (bxsA s) && (joinB 44 ((bxsA s).map bxS)).toList == s.toList)

theorem plainN_small : ∀ x : Fin 51, (Lib.decDigits x.val).all (fun c => c != 44 && c != 120) = true ∧ (Lib.decDigits x.val).length ≤ 2 := by decide +kernel

theorem bytes_inj {x y : ByteArray} (h : x.data.toList = y.data.toList) : x = y := ByteArray.ext (Array.toList_inj.1 h)
theorem words_inj : ∀ {xs ys : List ByteArray}, xs.map (·.data.toList) = ys.map (·.data.toList) → xs = ys
  | [], [], _ => rfl
  | [], y :: ys, h => by cases h
  | x :: xs, [], h => by cases h
  | x :: xs, y :: ys, h => by
    injection h with h1 h2
    rw [bytes_inj h1, words_inj h2]

theorem numN_small {x : Int} (h : 1 ≤ x ∧ x ≤ 50) : ∃ i : Fin 51, x = (i.val : Int) ∧ (numS x).data.toList = Lib.decDigits i.val := by
  refine ⟨⟨x.toNat, by omega⟩, by simp; omega, by simp [numS]⟩

theorem numN_plain {x : Int} (h : 1 ≤ x ∧ x ≤ 50) : (44 : UInt8) ∉ (numS x).data.toList ∧ (120 : UInt8) ∉ (numS x).data.toList ∧ (numS x).size ≤ 2 ∧ readL (numS x).data.toList = x ∧ atoiO (numS x) = some x := by
  obtain ⟨i, rfl, e⟩ := numN_small h
  have h1 := List.all_eq_true.1 (plainN_small i).1
  refine ⟨fun hm => ?_, fun hm => ?_, ?_, ?_, ?_⟩
  · rw [e] at hm
    have := h1 _ hm
    simp at this
  · rw [e] at hm
    have := h1 _ hm
    simp at this
  · rw [← size_list, e]
    exact (plainN_small i).2
  · rw [e]
    exact read_small ⟨i.val, by omega⟩
  · exact atoi_word (i := ⟨i.val, by omega⟩) e

theorem bx_list (b : Int × Int × Int) : (bxS b).data.toList = (numS b.1).data.toList ++ 120 :: ((numS b.2.1).data.toList ++ 120 :: (numS b.2.2).data.toList) := by
  rw [bxS]
  simp

theorem bx_join (b : Int × Int × Int) : (bxS b).data.toList = Lib.join [(numS b.1).data.toList, (numS b.2.1).data.toList, (numS b.2.2).data.toList] [120] := by
  rw [bx_list, Lib.join_cons]
  simp [Lib.joinTail]

section
variable {b : Int × Int × Int} (h : (1 ≤ b.1 ∧ b.1 ≤ 50) ∧ (1 ≤ b.2.1 ∧ b.2.1 ≤ 50) ∧ 1 ≤ b.2.2 ∧ b.2.2 ≤ 50)
include h

theorem bx_no : ∀ x ∈ [(numS b.1).data.toList, (numS b.2.1).data.toList, (numS b.2.2).data.toList], (120 : UInt8) ∉ x := by
  intro x hx
  simp only [List.mem_cons, List.not_mem_nil, or_false] at hx
  rcases hx with rfl | rfl | rfl
  · exact (numN_plain h.1).2.1
  · exact (numN_plain h.2.1).2.1
  · exact (numN_plain h.2.2).2.1

theorem bx_cut : cutN 120 3 (bxS b) = [numS b.1, numS b.2.1, numS b.2.2] := by
  apply words_inj
  have hne : 2 ≤ (bxS b).size := by rw [← size_list, bx_list]; simp; omega
  rw [cutN, Lib.splitB_data, bx_join]
  exact splitK_join (ws := [(numS b.1).data.toList, (numS b.2.1).data.toList, (numS b.2.2).data.toList]) (by simp) (bx_no h) _ (by simp; omega)

theorem bx_comma : (44 : UInt8) ∉ (bxS b).data.toList := by
  rw [bx_list]
  intro hm
  rcases List.mem_append.1 hm with hm | hm
  · exact (numN_plain h.1).1 hm
  · rcases List.mem_cons.1 hm with hm | hm
    · cases hm
    · rcases List.mem_append.1 hm with hm | hm
      · exact (numN_plain h.2.1).1 hm
      · rcases List.mem_cons.1 hm with hm | hm
        · cases hm
        · exact (numN_plain h.2.2).1 hm

theorem bx_size : (bxS b).size ≤ 8 := by
  have h1 := (numN_plain h.1).2.2.1
  have h2 := (numN_plain h.2.1).2.2.1
  have h3 := (numN_plain h.2.2).2.2.1
  have h4 : (⟨#[120]⟩ : ByteArray).size = 1 := rfl
  rw [bxS, ByteArray.size_append, ByteArray.size_append, ByteArray.size_append, ByteArray.size_append]
  omega

theorem bx_split : splitW 120 (bxS b) = [numS b.1, numS b.2.1, numS b.2.2] := by
  apply words_inj
  rw [splitW_segs, bx_join, join_segs (by simp)]
  · rfl
  · exact bx_no h

theorem bx_tripS : threeB (bxS b) = true ∧ tripS (bxS b) = b := by
  have e := bx_split h
  refine ⟨by rw [threeB, e]; rfl, ?_⟩
  rw [tripS, e]
  show (readL (numS b.1).data.toList, readL (numS b.2.1).data.toList, readL (numS b.2.2).data.toList) = b
  rw [(numN_plain h.1).2.2.2.1, (numN_plain h.2.1).2.2.2.1, (numN_plain h.2.2).2.2.2.1]

theorem bx_tripA : threeA (bxS b) = true ∧ tripA (bxS b) = b := by
  have e := bx_cut h
  have h1 := (numN_plain h.1).2.2.2.2
  have h2 := (numN_plain h.2.1).2.2.2.2
  have h3 := (numN_plain h.2.2).2.2.2.2
  refine ⟨by rw [threeA, e]; simp [allNum, h1, h2, h3], ?_⟩
  rw [tripA, e]
  simp [numsA, h1, h2, h3]
end

theorem joinL_ge (b : UInt8) (ws : List (List UInt8)) : ws.length ≤ (Lib.join ws [b]).length + 1 := by
  cases ws with
  | nil => simp
  | cons x r => rw [Lib.join_length]; simp; (try omega)

theorem goodN_bd {bs : List (Int × Int × Int)} (h : goodN bs = true) : ∀ b ∈ bs, (1 ≤ b.1 ∧ b.1 ≤ 50) ∧ (1 ≤ b.2.1 ∧ b.2.1 ≤ 50) ∧ 1 ≤ b.2.2 ∧ b.2.2 ≤ 50 := fun b hb => boxB_true.1 ((goodN_at h).2.2 b hb)

section
variable {bs : List (Int × Int × Int)} {s : ByteArray} (h : goodN bs = true) (e : joinB 44 (bs.map bxS) = s)
include h e

omit e in
theorem bxs_ne : bs.map bxS ≠ [] := by
  intro e0
  have h1 := (goodN_at h).1
  have h2 : (bs.map bxS).length = 0 := by rw [e0]; rfl
  rw [List.length_map] at h2
  omega

theorem bxs_split : splitW 44 s = bs.map bxS := by
  apply words_inj
  rw [splitW_segs, ← e, ← joinB_text, join_segs]
  · intro e0
    have := List.map_eq_nil_iff.1 e0
    exact bxs_ne h this
  · intro x hx
    obtain ⟨y, hy, rfl⟩ := List.mem_map.1 hx
    obtain ⟨b, hb, rfl⟩ := List.mem_map.1 hy
    exact bx_comma (goodN_bd h b hb)

theorem bxs_cut : cutN 44 7 s = bs.map bxS := by
  apply words_inj
  have hl := (goodN_at h).2.1
  have hg := joinL_ge 44 ((bs.map bxS).map (·.data.toList))
  rw [joinB_text, e, size_list, List.length_map, List.length_map] at hg
  rw [cutN, Lib.splitB_data, ← e, ← joinB_text, e]
  have hne : (bs.map bxS).map (·.data.toList) ≠ [] := fun e0 => bxs_ne h (List.map_eq_nil_iff.1 e0)
  have hpl : ∀ x ∈ (bs.map bxS).map (·.data.toList), (44 : UInt8) ∉ x := by
    intro x hx
    obtain ⟨y, hy, rfl⟩ := List.mem_map.1 hx
    obtain ⟨b, hb, rfl⟩ := List.mem_map.1 hy
    exact bx_comma (goodN_bd h b hb)
  exact splitK_join hne hpl (min 7 (s.size + 1) - 1) (by rw [List.length_map, List.length_map]; omega)

theorem bxs_back : bxsS s = bs ∧ bxsA s = bs ∧ (splitW 44 s).all threeB = true ∧ (cutN 44 7 s).all threeA = true ∧ s.size ≤ 70 := by
  have hb := goodN_bd h
  have hsp := bxs_split h e
  have hcu := bxs_cut h e
  refine ⟨?_, ?_, ?_, ?_, ?_⟩
  · rw [bxsS, hsp, List.map_map]
    conv => rhs; rw [← List.map_id bs]
    exact List.map_congr_left fun b hm => (bx_tripS (hb b hm)).2
  · rw [bxsA, hcu, List.map_map]
    conv => rhs; rw [← List.map_id bs]
    exact List.map_congr_left fun b hm => (bx_tripA (hb b hm)).2
  · rw [hsp]
    refine List.all_eq_true.2 fun x hx => ?_
    obtain ⟨b, hm, rfl⟩ := List.mem_map.1 hx
    exact (bx_tripS (hb b hm)).1
  · rw [hcu]
    refine List.all_eq_true.2 fun x hx => ?_
    obtain ⟨b, hm, rfl⟩ := List.mem_map.1 hx
    exact (bx_tripA (hb b hm)).1
  · have h1 := joinB_size 44 (bs.map bxS) 8 (fun x hx => by
      obtain ⟨b, hm, rfl⟩ := List.mem_map.1 hx
      exact bx_size (hb b hm))
    have h2 := (goodN_at h).2.1
    rw [List.length_map, e] at h1
    omega
end

theorem toList_inj {x y : ByteArray} (h : (x.toList == y.toList) = true) : x = y := by
  have := beq_iff_eq.1 h
  rw [ByteArray.toList_eq, ByteArray.toList_eq] at this
  exact bytes_inj this

theorem bytes_nil : (⟨#[]⟩ : ByteArray).data.toList = [] := rfl

/-- A word that is cut into the numbers of a box is that box's word. -/
theorem word_of {x : ByteArray} (h3 : threeB x = true) (hb : boxB (tripS x) = true) : bxS (tripS x) = x := by
  obtain ⟨x0, x1, x2, hw⟩ : ∃ x0 x1 x2, splitW 120 x = [x0, x1, x2] := list3 (of_decide_eq_true h3)
  have ht : tripS x = (readL x0.data.toList, readL x1.data.toList, readL x2.data.toList) := by rw [tripS, hw]; rfl
  have hbd := boxB_true.1 hb
  rw [ht] at hbd
  apply bytes_inj
  rw [bx_join, ht]
  have e0 : (numS (readL x0.data.toList)).data.toList = x0.data.toList := by
    have := read_num hbd.1.1
    simpa [numS] using this
  have e1 : (numS (readL x1.data.toList)).data.toList = x1.data.toList := by
    have := read_num hbd.2.1.1
    simpa [numS] using this
  have e2 : (numS (readL x2.data.toList)).data.toList = x2.data.toList := by
    have := read_num hbd.2.2.1
    simpa [numS] using this
  show Lib.join [(numS (readL x0.data.toList)).data.toList, (numS (readL x1.data.toList)).data.toList, (numS (readL x2.data.toList)).data.toList] [120] = _
  rw [e0, e1, e2]
  have hseg := splitW_segs 120 x
  rw [hw] at hseg
  have := segs_join 120 x.data.toList
  rw [← hseg] at this
  exact this

theorem text_ofN {s : ByteArray} (h3 : (splitW 44 s).all threeB = true) (hg : goodN (bxsS s) = true) : joinB 44 ((bxsS s).map bxS) = s := by
  have e : (bxsS s).map bxS = splitW 44 s := by
    rw [bxsS, List.map_map]
    conv => rhs; rw [← List.map_id (splitW 44 s)]
    exact List.map_congr_left fun x hx => word_of (List.all_eq_true.1 h3 x hx) ((goodN_at hg).2.2 _ (List.mem_map.2 ⟨x, hx, rfl⟩))
  apply bytes_inj
  rw [e, ← joinB_text, splitW_segs, segs_join]

theorem parseN_same (s : ByteArray) : takesN s = boxT s ∧ (boxT s = true → bxsA s = bxsS s) := by
  by_cases h : boxT s = true
  · obtain ⟨_, h1⟩ := Bool.and_eq_true_iff.1 h
    obtain ⟨h3, hg⟩ := Bool.and_eq_true_iff.1 h1
    have he := text_ofN h3 hg
    have hb := bxs_back hg he
    refine ⟨?_, fun _ => hb.2.1⟩
    rw [h, takesN, hb.2.2.2.1, hb.2.1, hg, he]
    simp
  · refine ⟨?_, fun e => absurd e h⟩
    have hf : boxT s = false := by simpa using h
    rw [hf]
    cases hk : takesN s with
    | false => rfl
    | true =>
      exfalso
      apply h
      obtain ⟨_, h1⟩ := Bool.and_eq_true_iff.1 hk
      obtain ⟨hg, he⟩ := Bool.and_eq_true_iff.1 h1
      have hb := bxs_back hg (toList_inj he)
      rw [boxT, hb.2.2.1, hb.1, hg, decide_eq_true hb.2.2.2.2]
      rfl
end Go.Proofs.YtbaofgbkcolmmabDoor

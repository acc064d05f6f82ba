/-
  Both programs take the same texts for books, and read the same books.
  Conditions: none.
-/
import Derived.Test.YtbaofgbkcolmmabDoorTxSame
import Derived.Test.YtbaofgbkcolmmabDoorTxBooksAsk
namespace Go.Proofs.YtbaofgbkcolmmabDoor
set_option linter.unusedVariables false
open Go.RowKit

/-- The checking program's book of a word, and its books of a text. -/
def twoB (x : ByteArray) : Bool := decide ((splitW 124 x).length = 2)
def pairS (x : ByteArray) : Int × Int := (readL ((splitW 124 x).getD 0 ⟨#[]⟩).data.toList, readL ((splitW 124 x).getD 1 ⟨#[]⟩).data.toList)
def bksS (s : ByteArray) : List (Int × Int) := (splitW 44 s).map pairS
def bookT (s : ByteArray) : Bool := decide (s.size ≤ 100) && ((splitW 44 s).all twoB && (goodK (bksS s) && (joinB 44 ((bksS s).map bkS)).toList == s.toList))

/-- The written program's. -/
def twoA (x : ByteArray) : Bool := allNum (cutN 124 2 x) && decide ((cutN 124 2 x).length = 2)
def pairA (x : ByteArray) : Int × Int := ((numsA (cutN 124 2 x)).getD 0 0, (numsA (cutN 124 2 x)).getD 1 0)
def bksA (s : ByteArray) : List (Int × Int) := (cutN 44 12 s).map pairA
def takesK (s : ByteArray) : Bool := (cutN 44 12 s).all twoA && (goodK (bksA s) && (joinB 44 ((bksA s).map bkS)).toList == s.toList)

theorem plain_small : ∀ x : Fin 101, (Lib.decDigits x.val).all (fun c => c != 44 && c != 124) = true := by decide +kernel

theorem bytes_inj {x y : ByteArray} (h : x.data.toList = y.data.toList) : x = y := ByteArray.ext (Array.toList_inj.1 h)
theorem words_inj : ∀ {xs ys : List ByteArray}, xs.map (·.data.toList) = ys.map (·.data.toList) → xs = ys
  | [], [], _ => rfl
  | [], y :: ys, h => by cases h
  | x :: xs, [], h => by cases h
  | x :: xs, y :: ys, h => by
    injection h with h1 h2
    rw [bytes_inj h1, words_inj h2]

theorem num_small {x : Int} (h : 1 ≤ x ∧ x ≤ 100) : ∃ i : Fin 101, x = (i.val : Int) ∧ (numS x).data.toList = Lib.decDigits i.val := by
  refine ⟨⟨x.toNat, by omega⟩, by simp; omega, by simp [numS]⟩

theorem num_plain {x : Int} (h : 1 ≤ x ∧ x ≤ 100) : (44 : UInt8) ∉ (numS x).data.toList ∧ (124 : UInt8) ∉ (numS x).data.toList ∧ (numS x).size ≤ 3 ∧ readL (numS x).data.toList = x ∧ atoiO (numS x) = some x := by
  obtain ⟨i, rfl, e⟩ := num_small h
  have h1 := List.all_eq_true.1 (plain_small i)
  refine ⟨fun hm => ?_, fun hm => ?_, ?_, ?_, atoi_word e⟩
  · rw [e] at hm
    have := h1 _ hm
    simp at this
  · rw [e] at hm
    have := h1 _ hm
    simp at this
  · rw [← size_list, e]
    exact (dash_small i).2
  · rw [e]
    exact read_small i

theorem bk_list (b : Int × Int) : (bkS b).data.toList = (numS b.1).data.toList ++ 124 :: (numS b.2).data.toList := by
  rw [bkS]
  simp

theorem bk_join (b : Int × Int) : (bkS b).data.toList = Lib.join [(numS b.1).data.toList, (numS b.2).data.toList] [124] := by
  rw [bk_list, Lib.join_cons]
  simp [Lib.joinTail]

section
variable {b : Int × Int} (h : (1 ≤ b.1 ∧ b.1 ≤ 100) ∧ 1 ≤ b.2 ∧ b.2 ≤ 100)
include h

theorem bk_split : splitW 124 (bkS b) = [numS b.1, numS b.2] := by
  apply words_inj
  rw [splitW_segs, bk_join, join_segs (by simp)]
  · rfl
  · intro x hx
    simp only [List.mem_cons, List.not_mem_nil, or_false] at hx
    rcases hx with rfl | rfl
    · exact (num_plain h.1).2.1
    · exact (num_plain h.2).2.1

theorem bk_cut : cutN 124 2 (bkS b) = [numS b.1, numS b.2] := by
  apply words_inj
  have hne : 1 ≤ (bkS b).size := by rw [← size_list, bk_list]; simp; omega
  rw [cutN, Lib.splitB_data, bk_join]
  refine splitK_join (ws := [(numS b.1).data.toList, (numS b.2).data.toList]) (by simp) ?_ _ (by simp; omega)
  intro x hx
  simp only [List.mem_cons, List.not_mem_nil, or_false] at hx
  rcases hx with rfl | rfl
  · exact (num_plain h.1).2.1
  · exact (num_plain h.2).2.1

theorem bk_comma : (44 : UInt8) ∉ (bkS b).data.toList := by
  rw [bk_list]
  intro hm
  rcases List.mem_append.1 hm with hm | hm
  · exact (num_plain h.1).1 hm
  · rcases List.mem_cons.1 hm with hm | hm
    · cases hm
    · exact (num_plain h.2).1 hm

theorem bk_size : (bkS b).size ≤ 7 := by
  have h1 := (num_plain h.1).2.2.1
  have h2 := (num_plain h.2).2.2.1
  have h4 : (⟨#[124]⟩ : ByteArray).size = 1 := rfl
  rw [bkS, ByteArray.size_append, ByteArray.size_append]
  omega

theorem bk_pairS : twoB (bkS b) = true ∧ pairS (bkS b) = b := by
  have e := bk_split h
  refine ⟨by rw [twoB, e]; rfl, ?_⟩
  rw [pairS, e]
  show (readL (numS b.1).data.toList, readL (numS b.2).data.toList) = b
  rw [(num_plain h.1).2.2.2.1, (num_plain h.2).2.2.2.1]

theorem bk_pairA : twoA (bkS b) = true ∧ pairA (bkS b) = b := by
  have e := bk_cut h
  have h1 := (num_plain h.1).2.2.2.2
  have h2 := (num_plain h.2).2.2.2.2
  refine ⟨by rw [twoA, e]; simp [allNum, h1, h2], ?_⟩
  rw [pairA, e]
  simp [numsA, h1, h2]
end

theorem joinL_ge (b : UInt8) (ws : List (List UInt8)) : ws.length ≤ (Lib.join ws [b]).length + 1 := by
  cases ws with
  | nil => simp
  | cons x r => rw [Lib.join_length]; simp; (try omega)

section
variable {bs : List (Int × Int)} {s : ByteArray} (h : goodK bs = true) (e : joinB 44 (bs.map bkS) = s)
include h e

omit e in
theorem bks_ne : bs.map bkS ≠ [] := by
  intro e0
  have h1 := (goodK_at h).1
  have h2 : (bs.map bkS).length = 0 := by rw [e0]; rfl
  rw [List.length_map] at h2
  omega

theorem bks_split : splitW 44 s = bs.map bkS := by
  apply words_inj
  rw [splitW_segs, ← e, ← joinB_text, join_segs]
  · intro e0
    have := List.map_eq_nil_iff.1 e0
    exact bks_ne h this
  · intro x hx
    obtain ⟨y, hy, rfl⟩ := List.mem_map.1 hx
    obtain ⟨b, hb, rfl⟩ := List.mem_map.1 hy
    exact bk_comma (by have := (goodK_at h).2.2 b hb; omega)

theorem bks_cut : cutN 44 12 s = bs.map bkS := by
  apply words_inj
  have hl := (goodK_at h).2.1
  have hg := joinL_ge 44 ((bs.map bkS).map (·.data.toList))
  rw [joinB_text, e, size_list, List.length_map, List.length_map] at hg
  rw [cutN, Lib.splitB_data, ← e, ← joinB_text, e]
  have hne : (bs.map bkS).map (·.data.toList) ≠ [] := fun e0 => bks_ne h (List.map_eq_nil_iff.1 e0)
  have hpl : ∀ x ∈ (bs.map bkS).map (·.data.toList), (44 : UInt8) ∉ x := by
    intro x hx
    obtain ⟨y, hy, rfl⟩ := List.mem_map.1 hx
    obtain ⟨b, hb, rfl⟩ := List.mem_map.1 hy
    exact bk_comma (by have := (goodK_at h).2.2 b hb; omega)
  exact splitK_join hne hpl (min 12 (s.size + 1) - 1) (by rw [List.length_map, List.length_map]; omega)

theorem bks_back : bksS s = bs ∧ bksA s = bs ∧ (splitW 44 s).all twoB = true ∧ (cutN 44 12 s).all twoA = true ∧ s.size ≤ 100 := by
  have hb : ∀ b ∈ bs, (1 ≤ b.1 ∧ b.1 ≤ 100) ∧ 1 ≤ b.2 ∧ b.2 ≤ 100 := fun b hb => by have := (goodK_at h).2.2 b hb; omega
  have hsp := bks_split h e
  have hcu := bks_cut h e
  refine ⟨?_, ?_, ?_, ?_, ?_⟩
  · rw [bksS, hsp, List.map_map]
    conv => rhs; rw [← List.map_id bs]
    exact List.map_congr_left fun b hm => (bk_pairS (hb b hm)).2
  · rw [bksA, hcu, List.map_map]
    conv => rhs; rw [← List.map_id bs]
    exact List.map_congr_left fun b hm => (bk_pairA (hb b hm)).2
  · rw [hsp]
    refine List.all_eq_true.2 fun x hx => ?_
    obtain ⟨b, hm, rfl⟩ := List.mem_map.1 hx
    exact (bk_pairS (hb b hm)).1
  · rw [hcu]
    refine List.all_eq_true.2 fun x hx => ?_
    obtain ⟨b, hm, rfl⟩ := List.mem_map.1 hx
    exact (bk_pairA (hb b hm)).1
  · have h1 := joinB_size 44 (bs.map bkS) 7 (fun x hx => by
      obtain ⟨b, hm, rfl⟩ := List.mem_map.1 hx
      exact bk_size (hb b hm))
    have h2 := (goodK_at h).2.1
    rw [List.length_map, e] at h1
    omega
end

theorem toList_inj {x y : ByteArray} (h : (x.toList == y.toList) = true) : x = y := by
  have := beq_iff_eq.1 h
  rw [ByteArray.toList_eq, ByteArray.toList_eq] at this
  exact bytes_inj this

theorem parseK_same (s : ByteArray) : takesK s = bookT s ∧ (bookT s = true → bksA s = bksS s) := by
  by_cases h : bookT s = true
  · obtain ⟨_, h1⟩ := Bool.and_eq_true_iff.1 h
    obtain ⟨_, h2⟩ := Bool.and_eq_true_iff.1 h1
    obtain ⟨hg, he⟩ := Bool.and_eq_true_iff.1 h2
    have hb := bks_back hg (toList_inj he)
    refine ⟨?_, fun _ => hb.2.1⟩
    rw [h, takesK, hb.2.2.2.1, hb.2.1, hg, he]
    rfl
  · refine ⟨?_, fun e => absurd e h⟩
    have hf : bookT s = false := by simpa using h
    rw [hf]
    cases hk : takesK s with
    | false => rfl
    | true =>
      exfalso
      apply h
      obtain ⟨_, h1⟩ := Bool.and_eq_true_iff.1 hk
      obtain ⟨hg, he⟩ := Bool.and_eq_true_iff.1 h1
      have hb := bks_back hg (toList_inj he)
      rw [bookT, hb.2.2.1, hb.1, hg, he, decide_eq_true hb.2.2.2.2]
      rfl
end Go.Proofs.YtbaofgbkcolmmabDoor

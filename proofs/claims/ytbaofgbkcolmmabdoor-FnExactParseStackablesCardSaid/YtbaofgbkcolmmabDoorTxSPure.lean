/-
  Both programs take the same texts for things, and read the same things.
  Conditions: none.
-/
import Derived.Test.YtbaofgbkcolmmabDoorTxSame
import Derived.Test.YtbaofgbkcolmmabDoorTxStkAsk
namespace Go.Proofs.YtbaofgbkcolmmabDoor
set_option linter.unusedVariables false
open Go.RowKit

/-- The checking program's box of a word, and its things of a text. -/
def threeBZ (x : ByteArray) : Bool := decide ((splitW 47 x).length = 3)
def tripSZ (x : ByteArray) : Int × Int × Int := (readL ((splitW 47 x).getD 0 ⟨#[]⟩).data.toList, readL ((splitW 47 x).getD 1 ⟨#[]⟩).data.toList, readL ((splitW 47 x).getD 2 ⟨#[]⟩).data.toList)
def bxsSZ (s : ByteArray) : List (Int × Int × Int) := (splitW 44 s).map tripSZ
def boxTZ (s : ByteArray) : Bool := decide (s.size ≤ 120) && ((splitW 44 s).all threeBZ && goodT (bxsSZ s))

/-- The written program's. -/
def threeAZ (x : ByteArray) : Bool := allNum (cutN 47 3 x) && decide ((cutN 47 3 x).length = 3)
def tripAZ (x : ByteArray) : Int × Int × Int := ((numsA (cutN 47 3 x)).getD 0 0, (numsA (cutN 47 3 x)).getD 1 0, (numsA (cutN 47 3 x)).getD 2 0)
def bxsAZ (s : ByteArray) : List (Int × Int × Int) := (cutN 44 7 s).map tripAZ
def takesNZ (s : ByteArray) : Bool := (cutN 44 7 s).all threeAZ && (goodT (bxsAZ s) && (joinB 44 ((bxsAZ s).map bxSZ)).toList == s.toList)

theorem read_smallZ : ∀ x : Fin 1001, readL (Lib.decDigits x.val) = (x.val : Int) := by decide +kernel
theorem atoi_smallZ : ∀ x : Fin 1001, atoiO ⟨(Lib.decDigits x.val).toArray⟩ = some (x.val : Int) := by decide +kernel
theorem atoi_wordZ {x : ByteArray} {i : Fin 1001} (h : x.data.toList = Lib.decDigits i.val) : atoiO x = some (i.val : Int) := by
  have := atoi_smallZ i
  unfold atoiO at this ⊢
  rw [h]
  exact this
theorem read_num0 {l : List UInt8} (h : 0 ≤ readL l) : Lib.decDigits (readL l).toNat = l := by
  by_cases h1 : 1 ≤ readL l
  · exact read_num h1
  · have h0 : readL l = 0 := by omega
    rw [h0]
    unfold readL at h0
    split at h0
    · rename_i hg
      obtain ⟨hf, hall⟩ := Bool.and_eq_true_iff.1 hg
      obtain ⟨hin, hz⟩ := Bool.and_eq_true_iff.1 hf
      have hlen := inB_true.1 hin
      have hd := List.all_eq_true.1 hall
      by_cases hc : l[0]? = some 48
      · have h2 : ¬ 1 < l.length := by simpa [hc] using hz
        match l, hc, h2, hlen with
        | [c], hc, _, _ =>
          simp at hc
          subst hc
          decide +kernel
      · have := (read_back (l.length - 1) l (by omega) hd hc).1
        omega
    · omega

theorem plainN_smallZ : ∀ x : Fin 1001, (Lib.decDigits x.val).all (fun c => c != 44 && c != 47) = true ∧ (Lib.decDigits x.val).length ≤ 4 := by decide +kernel

theorem bytes_injZ {x y : ByteArray} (h : x.data.toList = y.data.toList) : x = y := ByteArray.ext (Array.toList_inj.1 h)
theorem words_injZ : ∀ {xs ys : List ByteArray}, xs.map (·.data.toList) = ys.map (·.data.toList) → xs = ys
  | [], [], _ => rfl
  | [], y :: ys, h => by cases h
  | x :: xs, [], h => by cases h
  | x :: xs, y :: ys, h => by
    injection h with h1 h2
    rw [bytes_injZ h1, words_injZ h2]

theorem numN_smallZ {x : Int} (h : 0 ≤ x ∧ x ≤ 1000) : ∃ i : Fin 1001, x = (i.val : Int) ∧ (numS x).data.toList = Lib.decDigits i.val := by
  refine ⟨⟨x.toNat, by omega⟩, by simp; omega, by simp [numS]⟩

theorem numN_plainZ {x : Int} (h : 0 ≤ x ∧ x ≤ 1000) : (44 : UInt8) ∉ (numS x).data.toList ∧ (47 : UInt8) ∉ (numS x).data.toList ∧ (numS x).size ≤ 4 ∧ readL (numS x).data.toList = x ∧ atoiO (numS x) = some x := by
  obtain ⟨i, rfl, e⟩ := numN_smallZ h
  have h1 := List.all_eq_true.1 (plainN_smallZ i).1
  refine ⟨fun hm => ?_, fun hm => ?_, ?_, ?_, ?_⟩
  · rw [e] at hm
    have := h1 _ hm
    simp at this
  · rw [e] at hm
    have := h1 _ hm
    simp at this
  · rw [← size_list, e]
    exact (plainN_smallZ i).2
  · rw [e]
    exact read_smallZ i
  · exact atoi_wordZ (i := i) e

theorem bx_listZ (b : Int × Int × Int) : (bxSZ b).data.toList = (numS b.1).data.toList ++ 47 :: ((numS b.2.1).data.toList ++ 47 :: (numS b.2.2).data.toList) := by
  rw [bxSZ]
  simp

theorem bx_joinZ (b : Int × Int × Int) : (bxSZ b).data.toList = Lib.join [(numS b.1).data.toList, (numS b.2.1).data.toList, (numS b.2.2).data.toList] [47] := by
  rw [bx_listZ, Lib.join_cons]
  simp [Lib.joinTail]

section
variable {b : Int × Int × Int} (h : (0 ≤ b.1 ∧ b.1 ≤ 1000) ∧ (0 ≤ b.2.1 ∧ b.2.1 ≤ 1000) ∧ 0 ≤ b.2.2 ∧ b.2.2 ≤ 1000)
include h

theorem bx_noZ : ∀ x ∈ [(numS b.1).data.toList, (numS b.2.1).data.toList, (numS b.2.2).data.toList], (47 : UInt8) ∉ x := by
  intro x hx
  simp only [List.mem_cons, List.not_mem_nil, or_false] at hx
  rcases hx with rfl | rfl | rfl
  · exact (numN_plainZ h.1).2.1
  · exact (numN_plainZ h.2.1).2.1
  · exact (numN_plainZ h.2.2).2.1

theorem bx_cutZ : cutN 47 3 (bxSZ b) = [numS b.1, numS b.2.1, numS b.2.2] := by
  apply words_injZ
  have hne : 2 ≤ (bxSZ b).size := by rw [← size_list, bx_listZ]; simp; omega
  rw [cutN, Lib.splitB_data, bx_joinZ]
  exact splitK_join (ws := [(numS b.1).data.toList, (numS b.2.1).data.toList, (numS b.2.2).data.toList]) (by simp) (bx_noZ h) _ (by simp; omega)

theorem bx_commaZ : (44 : UInt8) ∉ (bxSZ b).data.toList := by
  rw [bx_listZ]
  intro hm
  rcases List.mem_append.1 hm with hm | hm
  · exact (numN_plainZ h.1).1 hm
  · rcases List.mem_cons.1 hm with hm | hm
    · cases hm
    · rcases List.mem_append.1 hm with hm | hm
      · exact (numN_plainZ h.2.1).1 hm
      · rcases List.mem_cons.1 hm with hm | hm
        · cases hm
        · exact (numN_plainZ h.2.2).1 hm

theorem bx_sizeZ : (bxSZ b).size ≤ 14 := by
  have h1 := (numN_plainZ h.1).2.2.1
  have h2 := (numN_plainZ h.2.1).2.2.1
  have h3 := (numN_plainZ h.2.2).2.2.1
  have h4 : (⟨#[47]⟩ : ByteArray).size = 1 := rfl
  rw [bxSZ, ByteArray.size_append, ByteArray.size_append, ByteArray.size_append, ByteArray.size_append]
  omega

theorem bx_splitZ : splitW 47 (bxSZ b) = [numS b.1, numS b.2.1, numS b.2.2] := by
  apply words_injZ
  rw [splitW_segs, bx_joinZ, join_segs (by simp)]
  · rfl
  · exact bx_noZ h

theorem bx_tripSZ : threeBZ (bxSZ b) = true ∧ tripSZ (bxSZ b) = b := by
  have e := bx_splitZ h
  refine ⟨by rw [threeBZ, e]; rfl, ?_⟩
  rw [tripSZ, e]
  show (readL (numS b.1).data.toList, readL (numS b.2.1).data.toList, readL (numS b.2.2).data.toList) = b
  rw [(numN_plainZ h.1).2.2.2.1, (numN_plainZ h.2.1).2.2.2.1, (numN_plainZ h.2.2).2.2.2.1]

theorem bx_tripAZ : threeAZ (bxSZ b) = true ∧ tripAZ (bxSZ b) = b := by
  have e := bx_cutZ h
  have h1 := (numN_plainZ h.1).2.2.2.2
  have h2 := (numN_plainZ h.2.1).2.2.2.2
  have h3 := (numN_plainZ h.2.2).2.2.2.2
  refine ⟨by rw [threeAZ, e]; simp [allNum, h1, h2, h3], ?_⟩
  rw [tripAZ, e]
  simp [numsA, h1, h2, h3]
end

theorem joinL_geZ (b : UInt8) (ws : List (List UInt8)) : ws.length ≤ (Lib.join ws [b]).length + 1 := by
  cases ws with
  | nil => simp
  | cons x r => rw [Lib.join_length]; simp; (try omega)

theorem goodN_bdZ {bs : List (Int × Int × Int)} (h : goodT bs = true) : ∀ b ∈ bs, (0 ≤ b.1 ∧ b.1 ≤ 1000) ∧ (0 ≤ b.2.1 ∧ b.2.1 ≤ 1000) ∧ 0 ≤ b.2.2 ∧ b.2.2 ≤ 1000 := fun b hb => by have := thgB_true.1 ((goodT_at h).2.2 b hb); omega

section
variable {bs : List (Int × Int × Int)} {s : ByteArray} (h : goodT bs = true) (e : joinB 44 (bs.map bxSZ) = s)
include h e

omit e in
theorem bxs_neZ : bs.map bxSZ ≠ [] := by
  intro e0
  have h1 := (goodT_at h).1
  have h2 : (bs.map bxSZ).length = 0 := by rw [e0]; rfl
  rw [List.length_map] at h2
  omega

theorem bxs_splitZ : splitW 44 s = bs.map bxSZ := by
  apply words_injZ
  rw [splitW_segs, ← e, ← joinB_text, join_segs]
  · intro e0
    have := List.map_eq_nil_iff.1 e0
    exact bxs_neZ h this
  · intro x hx
    obtain ⟨y, hy, rfl⟩ := List.mem_map.1 hx
    obtain ⟨b, hb, rfl⟩ := List.mem_map.1 hy
    exact bx_commaZ (goodN_bdZ h b hb)

theorem bxs_cutZ : cutN 44 7 s = bs.map bxSZ := by
  apply words_injZ
  have hl := (goodT_at h).2.1
  have hg := joinL_geZ 44 ((bs.map bxSZ).map (·.data.toList))
  rw [joinB_text, e, size_list, List.length_map, List.length_map] at hg
  rw [cutN, Lib.splitB_data, ← e, ← joinB_text, e]
  have hne : (bs.map bxSZ).map (·.data.toList) ≠ [] := fun e0 => bxs_neZ h (List.map_eq_nil_iff.1 e0)
  have hpl : ∀ x ∈ (bs.map bxSZ).map (·.data.toList), (44 : UInt8) ∉ x := by
    intro x hx
    obtain ⟨y, hy, rfl⟩ := List.mem_map.1 hx
    obtain ⟨b, hb, rfl⟩ := List.mem_map.1 hy
    exact bx_commaZ (goodN_bdZ h b hb)
  exact splitK_join hne hpl (min 7 (s.size + 1) - 1) (by rw [List.length_map, List.length_map]; omega)

theorem bxs_backZ : bxsSZ s = bs ∧ bxsAZ s = bs ∧ (splitW 44 s).all threeBZ = true ∧ (cutN 44 7 s).all threeAZ = true ∧ s.size ≤ 120 := by
  have hb := goodN_bdZ h
  have hsp := bxs_splitZ h e
  have hcu := bxs_cutZ h e
  refine ⟨?_, ?_, ?_, ?_, ?_⟩
  · rw [bxsSZ, hsp, List.map_map]
    conv => rhs; rw [← List.map_id bs]
    exact List.map_congr_left fun b hm => (bx_tripSZ (hb b hm)).2
  · rw [bxsAZ, hcu, List.map_map]
    conv => rhs; rw [← List.map_id bs]
    exact List.map_congr_left fun b hm => (bx_tripAZ (hb b hm)).2
  · rw [hsp]
    refine List.all_eq_true.2 fun x hx => ?_
    obtain ⟨b, hm, rfl⟩ := List.mem_map.1 hx
    exact (bx_tripSZ (hb b hm)).1
  · rw [hcu]
    refine List.all_eq_true.2 fun x hx => ?_
    obtain ⟨b, hm, rfl⟩ := List.mem_map.1 hx
    exact (bx_tripAZ (hb b hm)).1
  · have h1 := joinB_size 44 (bs.map bxSZ) 14 (fun x hx => by
      obtain ⟨b, hm, rfl⟩ := List.mem_map.1 hx
      exact bx_sizeZ (hb b hm))
    have h2 := (goodT_at h).2.1
    rw [List.length_map, e] at h1
    omega
end

theorem toList_injZ {x y : ByteArray} (h : (x.toList == y.toList) = true) : x = y := by
  have := beq_iff_eq.1 h
  rw [ByteArray.toList_eq, ByteArray.toList_eq] at this
  exact bytes_injZ this

theorem bytes_nilZ : (⟨#[]⟩ : ByteArray).data.toList = [] := rfl

/-- A word that is cut into the numbers of a thing is that box's word. -/
theorem word_ofZ {x : ByteArray} (h3 : threeBZ x = true) (hb : thgB (tripSZ x) = true) : bxSZ (tripSZ x) = x := by
  obtain ⟨x0, x1, x2, hw⟩ : ∃ x0 x1 x2, splitW 47 x = [x0, x1, x2] := list3 (of_decide_eq_true h3)
  have ht : tripSZ x = (readL x0.data.toList, readL x1.data.toList, readL x2.data.toList) := by rw [tripSZ, hw]; rfl
  have hbd := thgB_true.1 hb
  rw [ht] at hbd
  apply bytes_injZ
  rw [bx_joinZ, ht]
  have e0 : (numS (readL x0.data.toList)).data.toList = x0.data.toList := by
    have := read_num0 (l := x0.data.toList) (by have h : (1 : Int) ≤ readL x0.data.toList := hbd.1.1; omega)
    simpa [numS] using this
  have e1 : (numS (readL x1.data.toList)).data.toList = x1.data.toList := by
    have := read_num0 (l := x1.data.toList) (by have h : (0 : Int) ≤ readL x1.data.toList := hbd.2.1.1; omega)
    simpa [numS] using this
  have e2 : (numS (readL x2.data.toList)).data.toList = x2.data.toList := by
    have := read_num0 (l := x2.data.toList) (by have h : (1 : Int) ≤ readL x2.data.toList := hbd.2.2.1; omega)
    simpa [numS] using this
  show Lib.join [(numS (readL x0.data.toList)).data.toList, (numS (readL x1.data.toList)).data.toList, (numS (readL x2.data.toList)).data.toList] [47] = _
  rw [e0, e1, e2]
  have hseg := splitW_segs 47 x
  rw [hw] at hseg
  have := segs_join 47 x.data.toList
  rw [← hseg] at this
  exact this

theorem text_ofNZ {s : ByteArray} (h3 : (splitW 44 s).all threeBZ = true) (hg : goodT (bxsSZ s) = true) : joinB 44 ((bxsSZ s).map bxSZ) = s := by
  have e : (bxsSZ s).map bxSZ = splitW 44 s := by
    rw [bxsSZ, List.map_map]
    conv => rhs; rw [← List.map_id (splitW 44 s)]
    exact List.map_congr_left fun x hx => word_ofZ (List.all_eq_true.1 h3 x hx) ((goodT_at hg).2.2 _ (List.mem_map.2 ⟨x, hx, rfl⟩))
  apply bytes_injZ
  rw [e, ← joinB_text, splitW_segs, segs_join]

theorem parseN_sameZ (s : ByteArray) : takesNZ s = boxTZ s ∧ (boxTZ s = true → bxsAZ s = bxsSZ s) := by
  by_cases h : boxTZ s = true
  · obtain ⟨_, h1⟩ := Bool.and_eq_true_iff.1 h
    obtain ⟨h3, hg⟩ := Bool.and_eq_true_iff.1 h1
    have he := text_ofNZ h3 hg
    have hb := bxs_backZ hg he
    refine ⟨?_, fun _ => hb.2.1⟩
    rw [h, takesNZ, hb.2.2.2.1, hb.2.1, hg, he]
    simp
  · refine ⟨?_, fun e => absurd e h⟩
    have hf : boxTZ s = false := by simpa using h
    rw [hf]
    cases hk : takesNZ s with
    | false => rfl
    | true =>
      exfalso
      apply h
      obtain ⟨_, h1⟩ := Bool.and_eq_true_iff.1 hk
      obtain ⟨hg, he⟩ := Bool.and_eq_true_iff.1 h1
      have hb := bxs_backZ hg (toList_injZ he)
      rw [boxTZ, hb.2.2.1, hb.1, hg, decide_eq_true hb.2.2.2.2]
      rfl
end Go.Proofs.YtbaofgbkcolmmabDoor

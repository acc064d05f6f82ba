/-
  Both programs take the same texts for pieces, and read the same pieces.
  Conditions: none.
-/
import Derived.Test.YtjpejhpilfjheacDoorTxSame
import Derived.Test.YtjpejhpilfjheacDoorTxPcAsk
import Derived.Lib.ReplaceLaws
namespace Go.Proofs.YtjpejhpilfjheacDoor
set_option linter.unusedVariables false
set_option linter.unusedSimpArgs false
open Go.RowKit

/-- The checking program's piece of a word, and its pieces of a text. -/
def halfZ (x : ByteArray) : ByteArray := (splitW 61 x).getD 0 ⟨#[]⟩
def threeBZ (x : ByteArray) : Bool := decide ((splitW 61 x).length = 2) && decide ((splitW 120 (halfZ x)).length = 2)
def tripSZ (x : ByteArray) : Int × Int × Int := (readL ((splitW 120 (halfZ x)).getD 0 ⟨#[]⟩).data.toList, readL ((splitW 120 (halfZ x)).getD 1 ⟨#[]⟩).data.toList, readL ((splitW 61 x).getD 1 ⟨#[]⟩).data.toList)
def bxsSZ (s : ByteArray) : List (Int × Int × Int) := (splitW 44 s).map tripSZ
def boxTZ (s : ByteArray) : Bool := decide (s.size ≤ 50) && ((splitW 44 s).all threeBZ && goodPc (bxsSZ s))

/-- One sign turned into the other. -/
def exB (c : UInt8) : UInt8 := if c = 61 then 120 else c
def exS (s : ByteArray) : ByteArray := ⟨(s.data.toList.map exB).toArray⟩
theorem exS_list (s : ByteArray) : (exS s).data.toList = s.data.toList.map exB := by simp [exS]
theorem exS_size (s : ByteArray) : (exS s).size = s.size := by rw [← size_list, exS_list, List.length_map, size_list]
/-- The written program's. -/
def threeAZ (x : ByteArray) : Bool := allNum (cutN 120 3 x) && decide ((cutN 120 3 x).length = 3)
def tripAZ (x : ByteArray) : Int × Int × Int := ((numsA (cutN 120 3 x)).getD 0 0, (numsA (cutN 120 3 x)).getD 1 0, (numsA (cutN 120 3 x)).getD 2 0)
def bxsAZ (s : ByteArray) : List (Int × Int × Int) := (cutN 44 4 (exS s)).map tripAZ
def takesNZ (s : ByteArray) : Bool := (cutN 44 4 (exS s)).all threeAZ && (goodPc (bxsAZ s) && (joinB 44 ((bxsAZ s).map bxSZ)).toList == s.toList)

/-- All of a sign is replaced by the other. -/
theorem replaceK_ex : ∀ s : List UInt8, Lib.replaceK [61] [120] (Lib.count s [61]) s = s.map exB
  | [] => by rw [Lib.count_one]; rfl
  | c :: l => by
    have ih := replaceK_ex l
    by_cases h : c = 61
    · subst h
      have hix : Lib.index ((61 : UInt8) :: l) [61] = ((0 : Nat) : Int) := by rw [Lib.index]; simp [List.isPrefixOf]
      rw [Lib.count_cons_eq, Nat.add_comm, Lib.replaceK_hit _ _ _ _ 0 hix]
      simp only [List.take_zero, List.nil_append, List.length_cons, List.length_nil, Nat.zero_add, List.drop_succ_cons, List.drop_zero]
      rw [ih]
      rfl
    · rw [Lib.count_cons_ne c 61 l h]
      cases hk : Lib.count l [61] with
      | zero =>
        rw [hk] at ih
        have ih' : l = l.map exB := ih
        show c :: l = _
        rw [List.map_cons, ← ih', exB, if_neg h]
      | succ k =>
        obtain ⟨i, hi⟩ := Lib.index_of_count (s := l) (old := [61]) (by omega)
        have hp : ([61] : List UInt8).isPrefixOf (c :: l) = false := by simp [List.isPrefixOf, Ne.symm h]
        have hge : Lib.index l [61] ≠ -1 := by omega
        have hix : Lib.index (c :: l) [61] = ((i + 1 : Nat) : Int) := by
          rw [Lib.index, hp]
          simp only [Bool.false_eq_true, if_false]
          rw [if_neg (fun e => hge (beq_iff_eq.1 e)), hi]
          omega
        rw [hk, Lib.replaceK_hit _ _ _ _ i hi] at ih
        rw [Lib.replaceK_hit _ _ _ _ (i + 1) hix, List.map_cons, ← ih, exB, if_neg h]
        simp [Nat.add_right_comm]
theorem replaceAll_ex (s : ByteArray) : (⟨(Lib.replaceAll s.data.toList (⟨#[61]⟩ : ByteArray).data.toList (⟨#[120]⟩ : ByteArray).data.toList).toArray⟩ : ByteArray) = exS s := by
  have h : Lib.replaceAll s.data.toList [61] [120] = s.data.toList.map exB := by
    rw [Lib.replaceAll, Lib.replace, if_neg (by decide), Lib.replaceNum, if_pos (by left; decide)]
    exact replaceK_ex _
  show (⟨(Lib.replaceAll s.data.toList [61] [120]).toArray⟩ : ByteArray) = _
  rw [h]
  rfl

theorem read_smallZ : ∀ x : Fin 1001, readL (Lib.decDigits x.val) = (x.val : Int) := by decide +kernel
theorem atoi_smallZ : ∀ x : Fin 1001, atoiO ⟨(Lib.decDigits x.val).toArray⟩ = some (x.val : Int) := by decide +kernel
theorem atoi_wordZ {x : ByteArray} {i : Fin 1001} (h : x.data.toList = Lib.decDigits i.val) : atoiO x = some (i.val : Int) := by
  have := atoi_smallZ i
  unfold atoiO at this ⊢
  rw [h]
  exact this
theorem read_num0 {l : List UInt8} (h : 0 ≤ readL l) : Lib.decDigits (readL l).toNat = l := by
  by_cases h1 : 1 ≤ readL l
  · exact read_num h1
  · have h0 : readL l = 0 := by omega
    rw [h0]
    unfold readL at h0
    split at h0
    · rename_i hg
      obtain ⟨hf, hall⟩ := Bool.and_eq_true_iff.1 hg
      obtain ⟨hin, hz⟩ := Bool.and_eq_true_iff.1 hf
      have hlen := inB_true.1 hin
      have hd := List.all_eq_true.1 hall
      by_cases hc : l[0]? = some 48
      · have h2 : ¬ 1 < l.length := by simpa [hc] using hz
        match l, hc, h2, hlen with
        | [c], hc, _, _ =>
          simp at hc
          subst hc
          decide +kernel
      · have := (read_back (l.length - 1) l (by omega) hd hc).1
        omega
    · omega

theorem plainN_smallZ : ∀ x : Fin 1001, (Lib.decDigits x.val).all (fun c => c != 44 && (c != 61 && c != 120)) = true ∧ (Lib.decDigits x.val).length ≤ 4 := by decide +kernel
theorem two_smallZ : ∀ x : Fin 25, (Lib.decDigits x.val).length ≤ 2 := by decide +kernel

theorem bytes_injZ {x y : ByteArray} (h : x.data.toList = y.data.toList) : x = y := ByteArray.ext (Array.toList_inj.1 h)
theorem words_injZ : ∀ {xs ys : List ByteArray}, xs.map (·.data.toList) = ys.map (·.data.toList) → xs = ys
  | [], [], _ => rfl
  | [], y :: ys, h => by cases h
  | x :: xs, [], h => by cases h
  | x :: xs, y :: ys, h => by
    injection h with h1 h2
    rw [bytes_injZ h1, words_injZ h2]

theorem numN_smallZ {x : Int} (h : 0 ≤ x ∧ x ≤ 1000) : ∃ i : Fin 1001, x = (i.val : Int) ∧ (numS x).data.toList = Lib.decDigits i.val := by
  refine ⟨⟨x.toNat, by omega⟩, by simp; omega, by simp [numS]⟩
theorem numN_twoZ {x : Int} (h : 0 ≤ x ∧ x ≤ 24) : (numS x).size ≤ 2 := by
  have h2 := two_smallZ ⟨x.toNat, by omega⟩
  rw [← size_list]
  simpa [numS] using h2

theorem numN_plainZ {x : Int} (h : 0 ≤ x ∧ x ≤ 1000) : (44 : UInt8) ∉ (numS x).data.toList ∧ ((61 : UInt8) ∉ (numS x).data.toList ∧ (120 : UInt8) ∉ (numS x).data.toList) ∧ (numS x).size ≤ 4 ∧ readL (numS x).data.toList = x ∧ atoiO (numS x) = some x := by
  obtain ⟨i, rfl, e⟩ := numN_smallZ h
  have h1 := List.all_eq_true.1 (plainN_smallZ i).1
  refine ⟨fun hm => ?_, ⟨fun hm => ?_, fun hm => ?_⟩, ?_, ?_, ?_⟩
  · rw [e] at hm
    have := h1 _ hm
    simp at this
  · rw [e] at hm
    have := h1 _ hm
    simp at this
  · rw [e] at hm
    have := h1 _ hm
    simp at this
  · rw [← size_list, e]
    exact (plainN_smallZ i).2
  · rw [e]
    exact read_smallZ i
  · exact atoi_wordZ (i := i) e

/-- A piece's word with one sign alone. -/
def bxXZ (b : Int × Int × Int) : ByteArray := numS b.1 ++ ⟨#[120]⟩ ++ numS b.2.1 ++ ⟨#[120]⟩ ++ numS b.2.2
def frontZ (b : Int × Int × Int) : ByteArray := numS b.1 ++ ⟨#[120]⟩ ++ numS b.2.1
theorem front_listZ (b : Int × Int × Int) : (frontZ b).data.toList = (numS b.1).data.toList ++ 120 :: (numS b.2.1).data.toList := by
  rw [frontZ]
  simp
theorem bx_listZ (b : Int × Int × Int) : (bxSZ b).data.toList = (frontZ b).data.toList ++ 61 :: (numS b.2.2).data.toList := by
  rw [bxSZ, frontZ]
  simp
theorem bxX_listZ (b : Int × Int × Int) : (bxXZ b).data.toList = (numS b.1).data.toList ++ 120 :: ((numS b.2.1).data.toList ++ 120 :: (numS b.2.2).data.toList) := by
  rw [bxXZ]
  simp
theorem bxX_joinZ (b : Int × Int × Int) : (bxXZ b).data.toList = Lib.join [(numS b.1).data.toList, (numS b.2.1).data.toList, (numS b.2.2).data.toList] [120] := by
  rw [bxX_listZ, Lib.join_cons]
  simp [Lib.joinTail]
theorem bx_joinZ (b : Int × Int × Int) : (bxSZ b).data.toList = Lib.join [(frontZ b).data.toList, (numS b.2.2).data.toList] [61] := by
  rw [bx_listZ, Lib.join_cons]
  simp [Lib.joinTail]
theorem front_joinZ (b : Int × Int × Int) : (frontZ b).data.toList = Lib.join [(numS b.1).data.toList, (numS b.2.1).data.toList] [120] := by
  rw [front_listZ, Lib.join_cons]
  simp [Lib.joinTail]
theorem ex_noneZ {l : List UInt8} (h : (61 : UInt8) ∉ l) : l.map exB = l := by
  conv => rhs; rw [← List.map_id l]
  exact List.map_congr_left fun c hc => by
    have hne : c ≠ 61 := fun e => h (by rw [← e]; exact hc)
    rw [exB, if_neg hne]
    rfl
theorem ex_joinZ : ∀ ws : List (List UInt8), (Lib.join ws [44]).map exB = Lib.join (ws.map (List.map exB)) [44]
  | [] => rfl
  | x :: r => by
    rw [List.map_cons, Lib.join_cons, Lib.join_cons, List.map_append, Lib.joinTail, Lib.joinTail, List.map_flatten, List.map_map, List.map_map]
    exact congrArg (fun z => List.map exB x ++ List.flatten z) (List.map_congr_left fun y _ => by simp [exB])

section
variable {b : Int × Int × Int} (h : (0 ≤ b.1 ∧ b.1 ≤ 24) ∧ (0 ≤ b.2.1 ∧ b.2.1 ≤ 24) ∧ 0 ≤ b.2.2 ∧ b.2.2 ≤ 1000)
include h

theorem bx_pl : (0 ≤ b.1 ∧ b.1 ≤ 1000) ∧ (0 ≤ b.2.1 ∧ b.2.1 ≤ 1000) ∧ 0 ≤ b.2.2 ∧ b.2.2 ≤ 1000 := by omega

theorem bxX_noZ : ∀ x ∈ [(numS b.1).data.toList, (numS b.2.1).data.toList, (numS b.2.2).data.toList], (120 : UInt8) ∉ x := by
  have h' := bx_pl h
  intro x hx
  simp only [List.mem_cons, List.not_mem_nil, or_false] at hx
  rcases hx with rfl | rfl | rfl
  · exact (numN_plainZ h'.1).2.1.2
  · exact (numN_plainZ h'.2.1).2.1.2
  · exact (numN_plainZ h'.2.2).2.1.2

theorem front_noZ : (61 : UInt8) ∉ (frontZ b).data.toList := by
  have h' := bx_pl h
  rw [front_listZ]
  intro hm
  rcases List.mem_append.1 hm with hm | hm
  · exact (numN_plainZ h'.1).2.1.1 hm
  · rcases List.mem_cons.1 hm with hm | hm
    · cases hm
    · exact (numN_plainZ h'.2.1).2.1.1 hm

theorem bx_exZ : (bxSZ b).data.toList.map exB = (bxXZ b).data.toList := by
  have h' := bx_pl h
  rw [bx_listZ, List.map_append, List.map_cons, ex_noneZ (front_noZ h), ex_noneZ (numN_plainZ h'.2.2).2.1.1, bxX_listZ, front_listZ, show exB 61 = 120 from rfl]
  simp

theorem bxX_cutZ : cutN 120 3 (bxXZ b) = [numS b.1, numS b.2.1, numS b.2.2] := by
  apply words_injZ
  have hne : 2 ≤ (bxXZ b).size := by rw [← size_list, bxX_listZ]; simp; omega
  rw [cutN, Lib.splitB_data, bxX_joinZ]
  exact splitK_join (ws := [(numS b.1).data.toList, (numS b.2.1).data.toList, (numS b.2.2).data.toList]) (by simp) (bxX_noZ h) _ (by simp; omega)

theorem front_commaZ : (44 : UInt8) ∉ (frontZ b).data.toList := by
  have h' := bx_pl h
  rw [front_listZ]
  intro hm
  rcases List.mem_append.1 hm with hm | hm
  · exact (numN_plainZ h'.1).1 hm
  · rcases List.mem_cons.1 hm with hm | hm
    · cases hm
    · exact (numN_plainZ h'.2.1).1 hm

theorem bx_commaZ : (44 : UInt8) ∉ (bxSZ b).data.toList := by
  rw [bx_listZ]
  intro hm
  rcases List.mem_append.1 hm with hm | hm
  · exact front_commaZ h hm
  · rcases List.mem_cons.1 hm with hm | hm
    · cases hm
    · exact (numN_plainZ (bx_pl h).2.2).1 hm

theorem bxX_commaZ : (44 : UInt8) ∉ (bxXZ b).data.toList := by
  have h' := bx_pl h
  rw [bxX_listZ]
  intro hm
  rcases List.mem_append.1 hm with hm | hm
  · exact (numN_plainZ h'.1).1 hm
  · rcases List.mem_cons.1 hm with hm | hm
    · cases hm
    · rcases List.mem_append.1 hm with hm | hm
      · exact (numN_plainZ h'.2.1).1 hm
      · rcases List.mem_cons.1 hm with hm | hm
        · cases hm
        · exact (numN_plainZ h'.2.2).1 hm

theorem bx_sizeZ : (bxSZ b).size ≤ 10 := by
  have h1 := numN_twoZ h.1
  have h2 := numN_twoZ h.2.1
  have h3 := (numN_plainZ (bx_pl h).2.2).2.2.1
  have h4 : (⟨#[120]⟩ : ByteArray).size = 1 := rfl
  have h5 : (⟨#[61]⟩ : ByteArray).size = 1 := rfl
  rw [bxSZ, ByteArray.size_append, ByteArray.size_append, ByteArray.size_append, ByteArray.size_append]
  omega

theorem bx_splitZ : splitW 61 (bxSZ b) = [frontZ b, numS b.2.2] := by
  apply words_injZ
  rw [splitW_segs, bx_joinZ, join_segs (by simp)]
  · rfl
  · intro x hx
    simp only [List.mem_cons, List.not_mem_nil, or_false] at hx
    rcases hx with rfl | rfl
    · exact front_noZ h
    · exact (numN_plainZ (bx_pl h).2.2).2.1.1

theorem front_splitZ : splitW 120 (frontZ b) = [numS b.1, numS b.2.1] := by
  apply words_injZ
  rw [splitW_segs, front_joinZ, join_segs (by simp)]
  · rfl
  · intro x hx
    exact bxX_noZ h x (by simp only [List.mem_cons, List.not_mem_nil, or_false] at hx ⊢; rcases hx with rfl | rfl <;> simp)

theorem bx_tripSZ : threeBZ (bxSZ b) = true ∧ tripSZ (bxSZ b) = b := by
  have h' := bx_pl h
  have e := bx_splitZ h
  have e1 : halfZ (bxSZ b) = frontZ b := by rw [halfZ, e]; rfl
  have e2 := front_splitZ h
  refine ⟨by rw [threeBZ, e1, e, e2]; rfl, ?_⟩
  rw [tripSZ, e1, e, e2]
  show (readL (numS b.1).data.toList, readL (numS b.2.1).data.toList, readL (numS b.2.2).data.toList) = b
  rw [(numN_plainZ h'.1).2.2.2.1, (numN_plainZ h'.2.1).2.2.2.1, (numN_plainZ h'.2.2).2.2.2.1]

theorem bx_tripAZ : threeAZ (bxXZ b) = true ∧ tripAZ (bxXZ b) = b := by
  have h' := bx_pl h
  have e := bxX_cutZ h
  have h1 := (numN_plainZ h'.1).2.2.2.2
  have h2 := (numN_plainZ h'.2.1).2.2.2.2
  have h3 := (numN_plainZ h'.2.2).2.2.2.2
  refine ⟨by rw [threeAZ, e]; simp [allNum, h1, h2, h3], ?_⟩
  rw [tripAZ, e]
  simp [numsA, h1, h2, h3]
end

theorem joinL_geZ (b : UInt8) (ws : List (List UInt8)) : ws.length ≤ (Lib.join ws [b]).length + 1 := by
  cases ws with
  | nil => simp
  | cons x r => rw [Lib.join_length]; simp; (try omega)

theorem goodN_bdZ {bs : List (Int × Int × Int)} (h : goodPc bs = true) : ∀ b ∈ bs, (0 ≤ b.1 ∧ b.1 ≤ 24) ∧ (0 ≤ b.2.1 ∧ b.2.1 ≤ 24) ∧ 0 ≤ b.2.2 ∧ b.2.2 ≤ 1000 := fun b hb => by have := pcB_true.1 ((goodPc_at h).2.2 b hb); omega

section
variable {bs : List (Int × Int × Int)} {s : ByteArray} (h : goodPc bs = true) (e : joinB 44 (bs.map bxSZ) = s)
include h e

omit e in
theorem bxs_neZ (f : Int × Int × Int → ByteArray) : bs.map f ≠ [] := by
  intro e0
  have h1 := (goodPc_at h).1
  have h2 : (bs.map f).length = 0 := by rw [e0]; rfl
  rw [List.length_map] at h2
  omega

theorem bxs_splitZ : splitW 44 s = bs.map bxSZ := by
  apply words_injZ
  rw [splitW_segs, ← e, ← joinB_text, join_segs]
  · intro e0
    have := List.map_eq_nil_iff.1 e0
    exact bxs_neZ h _ this
  · intro x hx
    obtain ⟨y, hy, rfl⟩ := List.mem_map.1 hx
    obtain ⟨b, hb, rfl⟩ := List.mem_map.1 hy
    exact bx_commaZ (goodN_bdZ h b hb)

theorem exS_textZ : exS s = joinB 44 (bs.map bxXZ) := by
  apply bytes_injZ
  rw [exS_list, ← e, ← joinB_text, ex_joinZ, ← joinB_text, List.map_map, List.map_map, List.map_map]
  congr 1
  exact List.map_congr_left fun b hb => bx_exZ (goodN_bdZ h b hb)

theorem bxs_cutZ : cutN 44 4 (exS s) = bs.map bxXZ := by
  apply words_injZ
  have hl := (goodPc_at h).2.1
  have hg := joinL_geZ 44 ((bs.map bxXZ).map (·.data.toList))
  rw [joinB_text, ← exS_textZ h e, size_list, List.length_map, List.length_map] at hg
  have hne : (bs.map bxXZ).map (·.data.toList) ≠ [] := fun e0 => bxs_neZ h _ (List.map_eq_nil_iff.1 e0)
  have hpl : ∀ x ∈ (bs.map bxXZ).map (·.data.toList), (44 : UInt8) ∉ x := by
    intro x hx
    obtain ⟨y, hy, rfl⟩ := List.mem_map.1 hx
    obtain ⟨b, hb, rfl⟩ := List.mem_map.1 hy
    exact bxX_commaZ (goodN_bdZ h b hb)
  have hk := splitK_join hne hpl (min 4 ((exS s).size + 1) - 1) (by rw [List.length_map, List.length_map]; omega)
  rw [cutN, Lib.splitB_data]
  rw [joinB_text, ← exS_textZ h e] at hk
  exact hk

theorem bxs_backZ : bxsSZ s = bs ∧ bxsAZ s = bs ∧ (splitW 44 s).all threeBZ = true ∧ (cutN 44 4 (exS s)).all threeAZ = true ∧ s.size ≤ 50 := by
  have hb := goodN_bdZ h
  have hsp := bxs_splitZ h e
  have hcu := bxs_cutZ h e
  refine ⟨?_, ?_, ?_, ?_, ?_⟩
  · rw [bxsSZ, hsp, List.map_map]
    conv => rhs; rw [← List.map_id bs]
    exact List.map_congr_left fun b hm => (bx_tripSZ (hb b hm)).2
  · rw [bxsAZ, hcu, List.map_map]
    conv => rhs; rw [← List.map_id bs]
    exact List.map_congr_left fun b hm => (bx_tripAZ (hb b hm)).2
  · rw [hsp]
    refine List.all_eq_true.2 fun x hx => ?_
    obtain ⟨b, hm, rfl⟩ := List.mem_map.1 hx
    exact (bx_tripSZ (hb b hm)).1
  · rw [hcu]
    refine List.all_eq_true.2 fun x hx => ?_
    obtain ⟨b, hm, rfl⟩ := List.mem_map.1 hx
    exact (bx_tripAZ (hb b hm)).1
  · have h1 := joinB_size 44 (bs.map bxSZ) 10 (fun x hx => by
      obtain ⟨b, hm, rfl⟩ := List.mem_map.1 hx
      exact bx_sizeZ (hb b hm))
    have h2 := (goodPc_at h).2.1
    rw [List.length_map, e] at h1
    omega
end

theorem toList_injZ {x y : ByteArray} (h : (x.toList == y.toList) = true) : x = y := by
  have := beq_iff_eq.1 h
  rw [ByteArray.toList_eq, ByteArray.toList_eq] at this
  exact bytes_injZ this

theorem list2Z {α : Type} {cs : List α} (h : cs.length = 2) : ∃ a b, cs = [a, b] := by
  match cs, h with
  | [a, b], _ => exact ⟨a, b, rfl⟩

/-- A word that is cut into the numbers of a piece is that piece's word. -/
theorem word_ofZ {x : ByteArray} (h3 : threeBZ x = true) (hb : pcB (tripSZ x) = true) : bxSZ (tripSZ x) = x := by
  obtain ⟨h31, h32⟩ := Bool.and_eq_true_iff.1 h3
  obtain ⟨p, v, hw⟩ : ∃ p v, splitW 61 x = [p, v] := list2Z (of_decide_eq_true h31)
  have hp : halfZ x = p := by rw [halfZ, hw]; rfl
  rw [hp] at h32
  obtain ⟨x0, x1, hw2⟩ : ∃ x0 x1, splitW 120 p = [x0, x1] := list2Z (of_decide_eq_true h32)
  have ht : tripSZ x = (readL x0.data.toList, readL x1.data.toList, readL v.data.toList) := by rw [tripSZ, hp, hw, hw2]; rfl
  have hbd := pcB_true.1 hb
  rw [ht] at hbd
  apply bytes_injZ
  have e0 : (numS (readL x0.data.toList)).data.toList = x0.data.toList := by
    have := read_num0 (l := x0.data.toList) (by have h : (1 : Int) ≤ readL x0.data.toList := hbd.1.1.1; omega)
    simpa [numS] using this
  have e1 : (numS (readL x1.data.toList)).data.toList = x1.data.toList := by
    have := read_num0 (l := x1.data.toList) (by have h : (1 : Int) ≤ readL x1.data.toList := hbd.1.2.1; omega)
    simpa [numS] using this
  have e2 : (numS (readL v.data.toList)).data.toList = v.data.toList := by
    have := read_num0 (l := v.data.toList) (by have h : (0 : Int) ≤ readL v.data.toList := hbd.2.1; omega)
    simpa [numS] using this
  rw [bx_joinZ, front_joinZ, ht]
  show Lib.join [Lib.join [(numS (readL x0.data.toList)).data.toList, (numS (readL x1.data.toList)).data.toList] [120], (numS (readL v.data.toList)).data.toList] [61] = _
  rw [e0, e1, e2]
  have hs1 := splitW_segs 120 p
  rw [hw2] at hs1
  have hj1 := segs_join 120 p.data.toList
  rw [← hs1] at hj1
  have hs2 := splitW_segs 61 x
  rw [hw] at hs2
  have hj2 := segs_join 61 x.data.toList
  rw [← hs2] at hj2
  rw [show Lib.join [x0.data.toList, x1.data.toList] [120] = p.data.toList from hj1]
  exact hj2

theorem text_ofNZ {s : ByteArray} (h3 : (splitW 44 s).all threeBZ = true) (hg : goodPc (bxsSZ s) = true) : joinB 44 ((bxsSZ s).map bxSZ) = s := by
  have e : (bxsSZ s).map bxSZ = splitW 44 s := by
    rw [bxsSZ, List.map_map]
    conv => rhs; rw [← List.map_id (splitW 44 s)]
    exact List.map_congr_left fun x hx => word_ofZ (List.all_eq_true.1 h3 x hx) ((goodPc_at hg).2.2 _ (List.mem_map.2 ⟨x, hx, rfl⟩))
  apply bytes_injZ
  rw [e, ← joinB_text, splitW_segs, segs_join]

theorem parseN_sameZ (s : ByteArray) : takesNZ s = boxTZ s ∧ (boxTZ s = true → bxsAZ s = bxsSZ s) := by
  by_cases h : boxTZ s = true
  · obtain ⟨_, h1⟩ := Bool.and_eq_true_iff.1 h
    obtain ⟨h3, hg⟩ := Bool.and_eq_true_iff.1 h1
    have he := text_ofNZ h3 hg
    have hb := bxs_backZ hg he
    refine ⟨?_, fun _ => hb.2.1⟩
    rw [h, takesNZ, hb.2.2.2.1, hb.2.1, hg, he]
    simp
  · refine ⟨?_, fun e => absurd e h⟩
    have hf : boxTZ s = false := by simpa using h
    rw [hf]
    cases hk : takesNZ s with
    | false => rfl
    | true =>
      exfalso
      apply h
      obtain ⟨_, h1⟩ := Bool.and_eq_true_iff.1 hk
      obtain ⟨hg, he⟩ := Bool.and_eq_true_iff.1 h1
      have hb := bxs_backZ hg (toList_injZ he)
      rw [boxTZ, hb.2.2.1, hb.1, hg, decide_eq_true hb.2.2.2.2]
      rfl
end Go.Proofs.YtjpejhpilfjheacDoor

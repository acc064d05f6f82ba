/-
  Puzzles and texts of them: what each program takes a text apart into, and that both take the same texts; no program is spoken of here.
  Conditions: none.
-/
import Derived.Test.YtoheoojpmndhoabDoorTxPz
import Derived.Test.YtoheoojpmndhoabDoorTxPure
import Derived.Test.YtoheoojpmndhoabDoorTxSame
import Derived.Test.YtoheoojpmndhoabDoorTxRowsQ
import Derived.Lib.IndexMore
namespace Go.Proofs.YtoheoojpmndhoabDoor
set_option linter.unusedVariables false
open Go.RowKit

/-- What the checking program has of a text. -/
def fourS (x : ByteArray) : Bool := decide ((splitW 46 x).length = 4)
def quadS (x : ByteArray) : Clu := (readL ((splitW 46 x).getD 0 ⟨#[]⟩).data.toList, readL ((splitW 46 x).getD 1 ⟨#[]⟩).data.toList, readL ((splitW 46 x).getD 2 ⟨#[]⟩).data.toList, readL ((splitW 46 x).getD 3 ⟨#[]⟩).data.toList)
def headS (s : ByteArray) : ByteArray := (splitW 116 s).getD 0 ⟨#[]⟩
def tailS (s : ByteArray) : ByteArray := (splitW 116 s).getD 1 ⟨#[]⟩
def clsS (x : ByteArray) : List Clu := if x.size = 0 then [] else (splitW 44 x).map quadS
def okS (x : ByteArray) : Bool := decide (x.size = 0) || (splitW 44 x).all fourS
def tS (s : ByteArray) : Int := readL (headS s).data.toList
def goodT (t : Int) (cs : List Clu) (s : ByteArray) : Bool := puzB t cs && (pzS t cs).toList == s.toList
def specQ (s : ByteArray) : Bool := (decide (s.size ≤ 120) && decide ((splitW 116 s).length = 2)) && (okS (tailS s) && goodT (tS s) (clsS (tailS s)) s)

/-- What the written program has of it. -/
def headA (s : ByteArray) : ByteArray := ⟨(Lib.cut s.data.toList [116]).1.toArray⟩
def tailA (s : ByteArray) : ByteArray := ⟨(Lib.cut s.data.toList [116]).2.1.toArray⟩
def quadA (x : ByteArray) : Clu := ((numsA (cutN 46 4 x)).getD 0 0, (numsA (cutN 46 4 x)).getD 1 0, (numsA (cutN 46 4 x)).getD 2 0, (numsA (cutN 46 4 x)).getD 3 0)
def clsA (x : ByteArray) : List Clu := if x.size = 0 then [] else (cutN 44 6 x).map quadA
def okA (x : ByteArray) : Bool := decide (x.size = 0) || (cutN 44 6 x).all (rowB 46 4)
def tA (s : ByteArray) : Int := (atoiO (headA s)).getD 0
def implQ (s : ByteArray) : Bool := (atoiO (headA s)).isSome && (okA (tailA s) && goodT (tA s) (clsA (tailA s)) s)

theorem bytes_injQ {x y : ByteArray} (h : x.data.toList = y.data.toList) : x = y := ByteArray.ext (Array.toList_inj.1 h)
theorem words_injQ : ∀ {xs ys : List ByteArray}, xs.map (·.data.toList) = ys.map (·.data.toList) → xs = ys
  | [], [], _ => rfl
  | [], _ :: _, h => by cases h
  | _ :: _, [], h => by cases h
  | x :: xs, y :: ys, h => by
    injection h with h1 h2
    rw [bytes_injQ h1, words_injQ h2]
theorem toList_injQ {x y : ByteArray} (h : (x.toList == y.toList) = true) : x = y := by
  have := beq_iff_eq.1 h
  rw [ByteArray.toList_eq, ByteArray.toList_eq] at this
  exact bytes_injQ this

theorem read_smallQ : ∀ x : Fin 101, readL (Lib.decDigits x.val) = (x.val : Int) := by decide +kernel
theorem atoi_smallQ : ∀ x : Fin 101, atoiO ⟨(Lib.decDigits x.val).toArray⟩ = some (x.val : Int) := by decide +kernel
theorem plain_smallQ : ∀ x : Fin 101, (Lib.decDigits x.val).all (fun c => c != 44 && c != 46 && c != 116) = true ∧ (Lib.decDigits x.val).length ≤ 3 ∧ 1 ≤ (Lib.decDigits x.val).length := by decide +kernel
theorem num_plainQ {x : Int} (h : 0 ≤ x ∧ x ≤ 100) : (44 : UInt8) ∉ (numS x).data.toList ∧ (46 : UInt8) ∉ (numS x).data.toList ∧ (116 : UInt8) ∉ (numS x).data.toList ∧ ((numS x).size ≤ 3 ∧ 1 ≤ (numS x).size) ∧ readL (numS x).data.toList = x ∧ atoiO (numS x) = some x := by
  obtain ⟨i, rfl, e⟩ : ∃ i : Fin 101, x = (i.val : Int) ∧ (numS x).data.toList = Lib.decDigits i.val := ⟨⟨x.toNat, by omega⟩, by simp; omega, by simp [numS]⟩
  have h1 := List.all_eq_true.1 (plain_smallQ i).1
  have e2 : numS (i.val : Int) = ⟨(Lib.decDigits i.val).toArray⟩ := bytes_injQ (by rw [e])
  refine ⟨fun hm => ?_, fun hm => ?_, fun hm => ?_, ?_, ?_, ?_⟩
  · rw [e] at hm
    have := h1 _ hm
    simp at this
  · rw [e] at hm
    have := h1 _ hm
    simp at this
  · rw [e] at hm
    have := h1 _ hm
    simp at this
  · rw [← size_list, e]
    exact (plain_smallQ i).2
  · rw [e]
    exact read_smallQ i
  · rw [e2]
    exact atoi_smallQ i

theorem join_memQ {b c : UInt8} (hbc : b ≠ c) : ∀ {ws : List (List UInt8)}, (∀ x ∈ ws, b ∉ x) → b ∉ Lib.join ws [c]
  | [], _ => by simp [Lib.join]
  | x :: r, h => by
    rw [Lib.join_cons]
    intro hm
    rcases List.mem_append.1 hm with hm | hm
    · exact h x List.mem_cons_self hm
    · rw [Lib.joinTail] at hm
      obtain ⟨l, hl, hb⟩ := List.mem_flatten.1 hm
      obtain ⟨y, hy, rfl⟩ := List.mem_map.1 hl
      rcases List.mem_append.1 hb with hb | hb
      · exact hbc (by simpa using hb)
      · exact h y (List.mem_cons_of_mem _ hy) hb

def nums4 (c : Clu) : List ByteArray := [numS c.1, numS c.2.1, numS c.2.2.1, numS c.2.2.2]
theorem cl_join (c : Clu) : (clS c).data.toList = Lib.join ((nums4 c).map (·.data.toList)) [46] := by
  rw [clS, nums4]
  simp [Lib.join_cons, Lib.joinTail]

section
variable {c : Clu} (h : (0 ≤ c.1 ∧ c.1 ≤ 5) ∧ (0 ≤ c.2.1 ∧ c.2.1 ≤ 24) ∧ (0 ≤ c.2.2.1 ∧ c.2.2.1 ≤ 3) ∧ 0 ≤ c.2.2.2 ∧ c.2.2.2 ≤ 36)
include h
theorem nums4_all : ∀ x ∈ nums4 c, ∃ v : Int, x = numS v ∧ 0 ≤ v ∧ v ≤ 100 := by
  intro x hx
  simp only [nums4, List.mem_cons, List.not_mem_nil, or_false] at hx
  rcases hx with rfl | rfl | rfl | rfl <;> exact ⟨_, rfl, by omega, by omega⟩
theorem cl_noQ : ∀ x ∈ (nums4 c).map (·.data.toList), (46 : UInt8) ∉ x := by
  intro x hx
  obtain ⟨y, hy, rfl⟩ := List.mem_map.1 hx
  obtain ⟨v, rfl, hv⟩ := nums4_all h y hy
  exact (num_plainQ hv).2.1
theorem cl_sizeQ : (clS c).size ≤ 15 ∧ 7 ≤ (clS c).size := by
  have h1 := (num_plainQ (x := c.1) (by omega)).2.2.2.1
  have h2 := (num_plainQ (x := c.2.1) (by omega)).2.2.2.1
  have h3 := (num_plainQ (x := c.2.2.1) (by omega)).2.2.2.1
  have h4 := (num_plainQ (x := c.2.2.2) (by omega)).2.2.2.1
  have h5 : (⟨#[46]⟩ : ByteArray).size = 1 := rfl
  simp only [clS, ByteArray.size_append]
  omega
theorem cl_cutQ : cutN 46 4 (clS c) = nums4 c := by
  apply words_injQ
  have hsz := (cl_sizeQ h).2
  rw [cutN, Lib.splitB_data, cl_join]
  exact splitK_join (ws := (nums4 c).map (·.data.toList)) (by simp [nums4]) (cl_noQ h) (min 4 ((clS c).size + 1) - 1) (by simp [nums4]; omega)
theorem cl_splitQ : splitW 46 (clS c) = nums4 c := by
  apply words_injQ
  rw [splitW_segs, cl_join, join_segs (by simp [nums4]) (cl_noQ h)]
theorem cl_memQ (b : UInt8) (hb : b = 44 ∨ b = 116) : b ∉ (clS c).data.toList := by
  rw [cl_join]
  refine join_memQ (by rcases hb with rfl | rfl <;> decide) fun x hx => ?_
  obtain ⟨y, hy, rfl⟩ := List.mem_map.1 hx
  obtain ⟨v, rfl, hv⟩ := nums4_all h y hy
  rcases hb with rfl | rfl
  · exact (num_plainQ hv).1
  · exact (num_plainQ hv).2.2.1
theorem cl_backS : fourS (clS c) = true ∧ quadS (clS c) = c := by
  have e := cl_splitQ h
  refine ⟨by rw [fourS, e]; rfl, ?_⟩
  rw [quadS, e]
  show (readL (numS c.1).data.toList, readL (numS c.2.1).data.toList, readL (numS c.2.2.1).data.toList, readL (numS c.2.2.2).data.toList) = c
  rw [(num_plainQ (x := c.1) (by omega)).2.2.2.2.1, (num_plainQ (x := c.2.1) (by omega)).2.2.2.2.1, (num_plainQ (x := c.2.2.1) (by omega)).2.2.2.2.1, (num_plainQ (x := c.2.2.2) (by omega)).2.2.2.2.1]
theorem cl_backA : rowB 46 4 (clS c) = true ∧ quadA (clS c) = c := by
  have e := cl_cutQ h
  have h1 := (num_plainQ (x := c.1) (by omega)).2.2.2.2.2
  have h2 := (num_plainQ (x := c.2.1) (by omega)).2.2.2.2.2
  have h3 := (num_plainQ (x := c.2.2.1) (by omega)).2.2.2.2.2
  have h4 := (num_plainQ (x := c.2.2.2) (by omega)).2.2.2.2.2
  refine ⟨by rw [rowB, e]; simp [allNum, nums4, h1, h2, h3, h4], ?_⟩
  rw [quadA, e]
  simp [numsA, nums4, h1, h2, h3, h4]
end

theorem joinL_geQ (b : UInt8) (ws : List (List UInt8)) : ws.length ≤ (Lib.join ws [b]).length + 1 := by
  cases ws with
  | nil => simp
  | cons x r => rw [Lib.join_length]; simp; (try omega)

theorem cut_at {p r : List UInt8} {b : UInt8} (h : b ∉ p) : Lib.cut (p ++ b :: r) [b] = (p, r, true) := by
  have hi : Lib.index (p ++ b :: r) [b] = (p.length : Int) := by
    refine Lib.index_first (i := p.length) (by simp) (by simp [Lib.occAt]) fun j hj => ?_
    rw [Lib.occAt, List.drop_append_of_le_length (by omega)]
    obtain ⟨x, hx⟩ : ∃ x, p[j]? = some x := ⟨p[j], List.getElem?_eq_getElem hj⟩
    have hd : List.drop j p = p[j] :: List.drop (j + 1) p := List.drop_eq_getElem_cons hj
    have hne : b ≠ p[j] := fun e => h (e ▸ List.getElem_mem hj)
    rw [hd, List.cons_append]
    simp [List.isPrefixOf, hne]
  rw [Lib.cut, hi, if_pos (by omega)]
  simp

section
variable {t : Int} {cs : List Clu} {s : ByteArray} (h : puzB t cs = true) (e : pzS t cs = s)
include h e

omit e in
theorem bd_all : (2 ≤ t ∧ t ≤ 4) ∧ cs.length ≤ 6 ∧ ∀ c ∈ cs, (0 ≤ c.1 ∧ c.1 ≤ 5) ∧ (0 ≤ c.2.1 ∧ c.2.1 ≤ 24) ∧ (0 ≤ c.2.2.1 ∧ c.2.2.1 ≤ 3) ∧ 0 ≤ c.2.2.2 ∧ c.2.2.2 ≤ 36 := by
  obtain ⟨ht, h6, hcl⟩ := puzB_true.1 h
  exact ⟨ht, by omega, fun c hc => clueB_plain ht (hcl c hc)⟩

omit h in
theorem data_all : s.data.toList = (numS t).data.toList ++ 116 :: (joinB 44 (cs.map clS)).data.toList := by
  rw [← e, pzS, pzH]
  simp
omit e in
theorem tail_no : (116 : UInt8) ∉ (joinB 44 (cs.map clS)).data.toList := by
  rw [← joinB_text]
  refine join_memQ (by decide) fun x hx => ?_
  obtain ⟨y, hy, rfl⟩ := List.mem_map.1 hx
  obtain ⟨c, hc, rfl⟩ := List.mem_map.1 hy
  exact cl_memQ ((bd_all h).2.2 c hc) 116 (.inr rfl)
theorem split_all : splitW 116 s = [numS t, joinB 44 (cs.map clS)] := by
  apply words_injQ
  have ht := (bd_all h).1
  rw [splitW_segs, data_all e, segs_cut (num_plainQ (x := t) (by omega)).2.2.1, segs_none (tail_no h)]
  rfl
theorem cut_all : headA s = numS t ∧ tailA s = joinB 44 (cs.map clS) := by
  have ht := (bd_all h).1
  have hc := cut_at (r := (joinB 44 (cs.map clS)).data.toList) (num_plainQ (x := t) (by omega)).2.2.1
  rw [← data_all e] at hc
  exact ⟨bytes_injQ (by rw [headA, hc]), bytes_injQ (by rw [tailA, hc])⟩
omit e in
theorem tail_size : (joinB 44 (cs.map clS)).size ≤ 96 ∧ (cs ≠ [] → (joinB 44 (cs.map clS)).size ≠ 0) := by
  obtain ⟨_, h6, hb⟩ := bd_all h
  refine ⟨?_, fun hne h0 => ?_⟩
  · have h1 := joinB_size 44 (cs.map clS) 15 (fun x hx => by
      obtain ⟨c, hc, rfl⟩ := List.mem_map.1 hx
      exact (cl_sizeQ (hb c hc)).1)
    rw [List.length_map] at h1
    omega
  · obtain ⟨c, r, rfl⟩ := List.exists_cons_of_ne_nil hne
    have h1 := (cl_sizeQ (hb c List.mem_cons_self)).2
    have h2 : ((joinB 44 ((c :: r).map clS)).data.toList).length = 0 := by rw [size_list]; exact h0
    rw [← joinB_text, List.map_cons, List.map_cons, Lib.join_cons, List.length_append, size_list] at h2
    omega
omit e in
theorem tail_parts (hne : cs ≠ []) : splitW 44 (joinB 44 (cs.map clS)) = cs.map clS ∧ cutN 44 6 (joinB 44 (cs.map clS)) = cs.map clS := by
  obtain ⟨_, h6, hb⟩ := bd_all h
  have hpl : ∀ x ∈ (cs.map clS).map (·.data.toList), (44 : UInt8) ∉ x := by
    intro x hx
    obtain ⟨y, hy, rfl⟩ := List.mem_map.1 hx
    obtain ⟨c, hc, rfl⟩ := List.mem_map.1 hy
    exact cl_memQ (hb c hc) 44 (.inl rfl)
  have hn2 : (cs.map clS).map (·.data.toList) ≠ [] := by simpa using hne
  refine ⟨words_injQ ?_, words_injQ ?_⟩
  · rw [splitW_segs, ← joinB_text, join_segs hn2 hpl]
  · have hg := joinL_geQ 44 ((cs.map clS).map (·.data.toList))
    rw [joinB_text, size_list, List.length_map, List.length_map] at hg
    rw [cutN, Lib.splitB_data, ← joinB_text]
    exact splitK_join hn2 hpl _ (by rw [List.length_map, List.length_map]; omega)
omit e in
theorem tail_back : (okS (joinB 44 (cs.map clS)) = true ∧ clsS (joinB 44 (cs.map clS)) = cs) ∧ okA (joinB 44 (cs.map clS)) = true ∧ clsA (joinB 44 (cs.map clS)) = cs := by
  obtain ⟨_, h6, hb⟩ := bd_all h
  by_cases hne : cs = []
  · subst hne
    exact ⟨⟨rfl, rfl⟩, rfl, rfl⟩
  · obtain ⟨h1, h2⟩ := tail_parts h hne
    have h0 := (tail_size h).2 hne
    refine ⟨⟨?_, ?_⟩, ?_, ?_⟩
    · rw [okS, h1, List.all_eq_true.2 fun x hx => by obtain ⟨c, hc, rfl⟩ := List.mem_map.1 hx; exact (cl_backS (hb c hc)).1, Bool.or_true]
    · rw [clsS, if_neg h0, h1, List.map_map]
      conv => rhs; rw [← List.map_id cs]
      exact List.map_congr_left fun c hc => (cl_backS (hb c hc)).2
    · rw [okA, h2, List.all_eq_true.2 fun x hx => by obtain ⟨c, hc, rfl⟩ := List.mem_map.1 hx; exact (cl_backA (hb c hc)).1, Bool.or_true]
    · rw [clsA, if_neg h0, h2, List.map_map]
      conv => rhs; rw [← List.map_id cs]
      exact List.map_congr_left fun c hc => (cl_backA (hb c hc)).2
theorem back_all : (specQ s = true ∧ tS s = t ∧ clsS (tailS s) = cs) ∧ implQ s = true ∧ tA s = t ∧ clsA (tailA s) = cs := by
  have ht := (bd_all h).1
  have hp := num_plainQ (x := t) (by omega)
  have hsp := split_all h e
  obtain ⟨hc1, hc2⟩ := cut_all h e
  obtain ⟨⟨b1, b2⟩, b3, b4⟩ := tail_back h
  have hT : tailS s = joinB 44 (cs.map clS) := by rw [tailS, hsp]; rfl
  have hH : tS s = t := by rw [tS, headS, hsp]; exact hp.2.2.2.2.1
  have hA : atoiO (headA s) = some t := by rw [hc1]; exact hp.2.2.2.2.2
  have hA2 : tA s = t := by rw [tA, hA]; rfl
  have hg : goodT t cs s = true := by rw [goodT, h, e]; simp
  have hsz : s.size ≤ 120 := by
    have h1 := (tail_size h).1
    have h5 : (⟨#[116]⟩ : ByteArray).size = 1 := rfl
    rw [← e, pzS, pzH, ByteArray.size_append, ByteArray.size_append]
    have := hp.2.2.2.1
    omega
  refine ⟨⟨?_, hH, by rw [hT]; exact b2⟩, ?_, hA2, by rw [hc2]; exact b4⟩
  · rw [specQ, hT, hH, b1, b2, hg, decide_eq_true hsz, hsp]
    rfl
  · rw [implQ, hA, hc2, hA2, b3, b4, hg]
    rfl
end

theorem goodT_true {t : Int} {cs : List Clu} {s : ByteArray} (h : goodT t cs s = true) : puzB t cs = true ∧ pzS t cs = s := by
  obtain ⟨h1, h2⟩ := Bool.and_eq_true_iff.1 h
  exact ⟨h1, toList_injQ h2⟩
theorem specQ_true {s : ByteArray} (h : specQ s = true) : goodT (tS s) (clsS (tailS s)) s = true := (Bool.and_eq_true_iff.1 (Bool.and_eq_true_iff.1 h).2).2
theorem implQ_true {s : ByteArray} (h : implQ s = true) : goodT (tA s) (clsA (tailA s)) s = true := (Bool.and_eq_true_iff.1 (Bool.and_eq_true_iff.1 h).2).2

/-- Both programs take the same texts, for the same puzzles. -/
theorem parseQ_same (s : ByteArray) : implQ s = specQ s ∧ (specQ s = true → tA s = tS s ∧ clsA (tailA s) = clsS (tailS s)) := by
  cases hS : specQ s with
  | true =>
    obtain ⟨h1, h2⟩ := goodT_true (specQ_true hS)
    obtain ⟨_, b1, b2, b3⟩ := back_all h1 h2
    exact ⟨b1, fun _ => ⟨b2, b3⟩⟩
  | false =>
    refine ⟨?_, fun e => by cases e⟩
    cases hA : implQ s with
    | false => rfl
    | true =>
      obtain ⟨h1, h2⟩ := goodT_true (implQ_true hA)
      obtain ⟨⟨b1, _⟩, _⟩ := back_all h1 h2
      rw [hS] at b1
      cases b1
end Go.Proofs.YtoheoojpmndhoabDoor

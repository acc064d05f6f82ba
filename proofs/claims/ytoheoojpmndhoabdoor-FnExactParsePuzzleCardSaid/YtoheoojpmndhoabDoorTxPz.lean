/-
  Both programs' text of a puzzle, or that there is none.
  Conditions: at most 1048576 clues; the library's table of powers of ten reads as it is written.
-/
import Derived.Test.YtoheoojpmndhoabDoorTxRowsP
import Derived.Test.YtoheoojpmndhoabDoorPzQ
import Derived.Deep.RegionHeld3
namespace Go.Proofs.YtoheoojpmndhoabDoor
set_option linter.unusedVariables false
set_option linter.unusedSimpArgs false
open Go.RowKit

/-- One clue's word. -/
def clS (c : Clu) : ByteArray := numS c.1 ++ ⟨#[46]⟩ ++ numS c.2.1 ++ ⟨#[46]⟩ ++ numS c.2.2.1 ++ ⟨#[46]⟩ ++ numS c.2.2.2
def rowC (c : Clu) : List Int := [c.1, c.2.1, c.2.2.1, c.2.2.2]
theorem rowC_text (c : Clu) : textS 46 (rowC c) = clS c := by simp [rowC, textS, clS, append_assocB]
theorem rowC_texts (cs : List Clu) : (cs.map rowC).map (textS 46) = cs.map clS := by
  rw [List.map_map]
  exact List.map_congr_left fun c _ => rowC_text c
/-- The head of a puzzle's text, and all of it. -/
def pzH (t : Int) : ByteArray := numS t ++ ⟨#[116]⟩
def pzS (t : Int) (cs : List Clu) : ByteArray := pzH t ++ joinB 44 (cs.map clS)

/-- Clues that a text is made of. -/
def plainC (cs : List Clu) : Prop := ∀ c ∈ cs, (0 ≤ c.1 ∧ c.1 ≤ 1000000) ∧ (0 ≤ c.2.1 ∧ c.2.1 ≤ 1000000) ∧ (0 ≤ c.2.2.1 ∧ c.2.2.1 ≤ 1000000) ∧ 0 ≤ c.2.2.2 ∧ c.2.2.2 ≤ 1000000
theorem clueB_plain {n : Int} (hn : 2 ≤ n ∧ n ≤ 4) {c : Clu} (h : clueB n c = true) : (0 ≤ c.1 ∧ c.1 ≤ 5) ∧ (0 ≤ c.2.1 ∧ c.2.1 ≤ 24) ∧ (0 ≤ c.2.2.1 ∧ c.2.2.1 ≤ 3) ∧ 0 ≤ c.2.2.2 ∧ c.2.2.2 ≤ 36 := by
  obtain ⟨k, a, b, u⟩ := c
  dsimp only
  unfold clueB noneC twoC at h
  dsimp only at h
  repeat' split at h
  all_goals first
    | (simp only [Bool.and_eq_true, decide_eq_true_eq, inB_true] at h; omega)
    | (cases h)
theorem puzB_plain {t : Int} {cs : List Clu} (h : puzB t cs = true) : plainC cs := fun c hc => by
  obtain ⟨ht, _, hcl⟩ := puzB_true.1 h
  have := clueB_plain ht (hcl c hc)
  omega
theorem clS_size {c : Clu} (h : (0 ≤ c.1 ∧ c.1 ≤ 1000000) ∧ (0 ≤ c.2.1 ∧ c.2.1 ≤ 1000000) ∧ (0 ≤ c.2.2.1 ∧ c.2.2.1 ≤ 1000000) ∧ 0 ≤ c.2.2.2 ∧ c.2.2.2 ≤ 1000000) : (clS c).size ≤ 87 := by
  have h1 := numS_size h.1.1 h.1.2
  have h2 := numS_size h.2.1.1 h.2.1.2
  have h3 := numS_size h.2.2.1.1 h.2.2.1.2
  have h4 := numS_size h.2.2.2.1 h.2.2.2.2
  have h5 : (⟨#[46]⟩ : ByteArray).size = 1 := rfl
  simp only [clS, ByteArray.size_append]
  omega
theorem words_sizeC {cs : List Clu} (h : plainC cs) : ∀ s ∈ cs.map clS, s.size ≤ 87 := by
  intro s hs
  obtain ⟨c, hc, rfl⟩ := List.mem_map.1 hs
  exact clS_size (h c hc)
theorem part_sizeC {cs : List Clu} (h : plainC cs) (hl : cs.length ≤ 6) (k : Nat) : (joinB 44 ((cs.map clS).take k)).size ≤ 1000 := by
  have h1 := joinB_size 44 ((cs.map clS).take k) 87 (fun s hs => words_sizeC h s (List.mem_of_mem_take hs))
  have h2 : ((cs.map clS).take k).length ≤ cs.length := by rw [List.length_take, List.length_map]; omega
  omega
theorem pzH_size {t : Int} (h : 0 ≤ t ∧ t ≤ 1000000) : (pzH t).size ≤ 22 := by
  have h1 := numS_size h.1 h.2
  have h5 : (⟨#[116]⟩ : ByteArray).size = 1 := rfl
  rw [pzH, ByteArray.size_append]
  omega
theorem rowC_plain {cs : List Clu} (h : plainC cs) : plainR (cs.map rowC) := by
  intro r hr
  obtain ⟨c, hc, rfl⟩ := List.mem_map.1 hr
  have := h c hc
  refine ⟨by simp [rowC], fun x hx => ?_⟩
  simp only [rowC, List.mem_cons, List.not_mem_nil, or_false] at hx
  rcases hx with rfl | rfl | rfl | rfl <;> omega

theorem append_nilR (s : ByteArray) : s ++ (⟨#[]⟩ : ByteArray) = s := by apply ByteArray.ext; simp [ByteArray.data_append]

/-- A text and a bool are answered. -/
def RetPT (b : Bool) (t : ByteArray) (w : World) (e : Ending) (w' : World) : Prop := e = .returned (.tuple #[.string t, .bool b]) ∧ Below w.heap.size w w'
def somePT (b : Bool) (t : ByteArray) : ByteArray := if b = true then t else ⟨#[]⟩

theorem keep4 {W0 W1 W2 : World} {g : Nat} {o : Obj} (h : Below W0.heap.size W0 W1 ∧ W1.heap[g]? = some o) (hb : Below W1.heap.size W1 W2) :
    Below W0.heap.size W0 W2 ∧ W2.heap[g]? = some o := ⟨h.1.trans (hb.mono h.1.size), (hb.block g (heap_lt h.2)).trans h.2⟩

set_option maxRecDepth 100000 in
set_option maxHeartbeats 8000000 in
theorem pzText_any (t : Int) (A : Option Addr) (n c : Nat) (cs : List Clu) (lo hi : Nat) (w : World) (hn : cs.length = n) (hlen : n ≤ 6) (ht : 0 ≤ t ∧ t ≤ 1000000) (hx : plainC cs) (hs : Seg w lo hi A (flat4 cs)) (hB : hi ≤ w.heap.size) :
    Calls Tryd.prog 16 #[pzV t A n c] w fun e w' => e = .returned (.string (pzS t cs)) ∧ Below w.heap.size w w' := by
  obtain ⟨W, hW⟩ : ∃ W, w.alloc (.cells #[.int .i64 t, .slice A n c] 30) = W := ⟨_, rfl⟩
  have z0 : Below w.heap.size w W := by rw [← hW]; exact (Below.refl _ _).alloc (Nat.le_refl _) _
  have p0 : W.heap[w.heap.size]? = some (.cells #[.int .i64 t, .slice A n c] 30 (0, 0)) := by rw [← hW]; exact new_at _ _ rfl
  have hsz := heap_lt p0
  have HN := Lib.hid hn
  have HX := Lib.hid hx
  have HL := Lib.hid (part_sizeC hx (by omega))
  have HW := Lib.hid hW
  have hhs := pzH_size ht
  have hnt := numS_size ht.1 ht.2
  have hd0 : (⟨#[116]⟩ : ByteArray).size = 1 := rfl
  have ha0 := add_ok (numS t) ⟨#[116]⟩ (by omega)
  have hb0 : ((numS t).size + 1 > 9223372036854775807) = False := ha0
  obtain ⟨H, hH⟩ : ∃ H, pzH t = H := ⟨_, rfl⟩
  have HH := Lib.hid hH
  rw [hH] at hhs
  clear hn hx hW hH
  have q0 := cell_of p0 0
  have q1 := cell_of p0 1
  simp only [List.getElem?_toArray, List.getElem?_cons_zero, List.getElem?_cons_succ] at q0 q1
  go_enter Tryd.func16, Tryd.ntmps16
  go_wp2_with fail
  rw [HW.out]
  refine (l1Num_any _ t _ ht.1 ht.2 rfl).mono ?_
  rintro e v1 ⟨rfl, hb1⟩
  have hz1 := hb1.size
  have y1 := z0.trans (hb1.mono z0.size)
  have p1 := (hb1.block _ hsz).trans p0
  clear q0 q1
  have q0 := cell_of p1 0
  have q1 := cell_of p1 1
  simp only [List.getElem?_toArray, List.getElem?_cons_zero, List.getElem?_cons_succ] at q0 q1
  go_wp2
  go_loopw [3, 13] (fun s i wr => ∃ k : Nat, k ≤ n ∧ i = .int .i64 k ∧ s = .string (H ++ joinB 44 ((cs.map clS).take k)) ∧ Below w.heap.size w wr) (fun _ i _ => n - (intOf i).toNat)
  case atStart => exact ⟨0, Nat.zero_le _, rfl, by rw [← HH.out, List.take_zero]; show Value.string (pzH t) = .string (pzH t ++ ⟨#[]⟩); rw [append_nilR], y1⟩
  case round =>
    obtain ⟨k, hk, rfl, rfl, hb⟩ := hrel
    have hz := hb.size
    by_cases hlt : k < n
    · obtain ⟨b, off, x, y, z, u, rfl, _, _, hu, hc0, hc1, hc2, hc3⟩ := (hs.below hb hB).quad (k := k) (by rw [HN.out]; exact hlt)
      have hub := HX.out (x, y, z, u) (List.mem_of_getElem? hu)
      dsimp only at hub
      have hw : (cs.map clS)[k]? = some (clS (x, y, z, u)) := by simp [hu]
      have hle := HL.out k
      have hsx := numS_size hub.1.1 hub.1.2
      have hsy := numS_size hub.2.1.1 hub.2.1.2
      have hsz3 := numS_size hub.2.2.1.1 hub.2.2.1.2
      have hsu := numS_size hub.2.2.2.1 hub.2.2.2.2
      have hd : (⟨#[46]⟩ : ByteArray).size = 1 := rfl
      have hd2 : (⟨#[44]⟩ : ByteArray).size = 1 := rfl
      obtain ⟨W1, hW1⟩ : ∃ W1, wr.alloc (.cells #[.int .i64 x, .int .i64 y, .int .i64 z, .int .i64 u] 44) = W1 := ⟨_, rfl⟩
      have hb2 : Below wr.heap.size wr W1 := by rw [← hW1]; exact (Below.refl _ _).alloc (Nat.le_refl _) _
      have hm1 : W1.heap[wr.heap.size]? = some (.cells #[.int .i64 x, .int .i64 y, .int .i64 z, .int .i64 u] 44 (0, 0)) := by rw [← hW1]; exact new_at _ _ rfl
      have HW1 := Lib.hid hW1
      have hbr := hb.trans (hb2.mono hz)
      have hzW := hbr.size
      have ha1 := add_ok (numS x) (⟨#[46]⟩) (by (try simp only [ByteArray.size_append]); omega)
      have hb1 : ((numS x).size + 1 > 9223372036854775807) = False := eq_false (by omega)
      have ha2 := add_ok (numS x ++ ⟨#[46]⟩) (numS y) (by (try simp only [ByteArray.size_append]); omega)
      have hb2 : ((numS x).size + 1 + (numS y).size > 9223372036854775807) = False := eq_false (by omega)
      have ha3 := add_ok (numS x ++ ⟨#[46]⟩ ++ numS y) (⟨#[46]⟩) (by (try simp only [ByteArray.size_append]); omega)
      have hb3 : ((numS x).size + 1 + (numS y).size + 1 > 9223372036854775807) = False := eq_false (by omega)
      have ha4 := add_ok (numS x ++ ⟨#[46]⟩ ++ numS y ++ ⟨#[46]⟩) (numS z) (by (try simp only [ByteArray.size_append]); omega)
      have hb4 : ((numS x).size + 1 + (numS y).size + 1 + (numS z).size > 9223372036854775807) = False := eq_false (by omega)
      have ha5 := add_ok (numS x ++ ⟨#[46]⟩ ++ numS y ++ ⟨#[46]⟩ ++ numS z) (⟨#[46]⟩) (by (try simp only [ByteArray.size_append]); omega)
      have hb5 : ((numS x).size + 1 + (numS y).size + 1 + (numS z).size + 1 > 9223372036854775807) = False := eq_false (by omega)
      have ha6 := add_ok (numS x ++ ⟨#[46]⟩ ++ numS y ++ ⟨#[46]⟩ ++ numS z ++ ⟨#[46]⟩) (numS u) (by (try simp only [ByteArray.size_append]); omega)
      have hb6 : ((numS x).size + 1 + (numS y).size + 1 + (numS z).size + 1 + (numS u).size > 9223372036854775807) = False := eq_false (by omega)
      by_cases h0 : k = 0
      · subst h0
        have HS := Lib.hid (joinB_first 44 hw)
        generalize hT : joinB 44 ((cs.map clS).take 0) = T at *
        have hT0 : T = ⟨#[]⟩ := hT.symm
        try rw [Nat.zero_mul] at hc0 hc1 hc2 hc3
        try rw [Nat.add_zero] at hc0
        have he1 := add_ok (H ++ T) (numS x ++ ⟨#[46]⟩ ++ numS y ++ ⟨#[46]⟩ ++ numS z ++ ⟨#[46]⟩ ++ numS u) (by (try simp only [ByteArray.size_append]); omega)
        have he2 : (H.size + T.size + ((numS x).size + 1 + (numS y).size + 1 + (numS z).size + 1 + (numS u).size) > 9223372036854775807) = False := eq_false (by omega)
        have HT := Lib.hid hT
        clear hle hsx hsy hsz3 hsu hd hd2 hu hw hT hT0 hW1
        go_wp2_with fail
        rw [HW1.out]
        refine wp_region_held_drew (S := (fun wq => Below W1.heap.size W1 wq ∧ wq.heap[wr.heap.size]? = some (.cells #[.int .i64 x, .int .i64 y, .int .i64 z, .int .i64 u] 44 (0, 0)))) (by kernel_rfl) ⟨(Below.refl _ _).drew, hm1⟩ (fun hH0 => ?_)
        refine wpAnyH_take (i := 0) (v := ?_) (ops_at rfl) (by kernel_rfl) (by kernel_rfl) (by kernel_rfl) (fun _ _ _ h => h) (Or.inl ⟨by rfl, ?ya0⟩) (by assumption) ?na0
        case ya0 => (intro wS hSw; obtain ⟨s0, s1⟩ := hSw; have q0 := cell_of s1 0; have q1 := cell_of s1 1; have q2 := cell_of s1 2; have q3 := cell_of s1 3; go_simp; try rfl)
        try simp only [Act.put, List.setIfInBounds_toArray, List.set_cons_zero, List.set_cons_succ]
        refine wpAnyH_take (i := 1) (v := ?_) (ops_at rfl) (by kernel_rfl) (by kernel_rfl) (by kernel_rfl) (fun _ _ _ h => h) (Or.inl ⟨by rfl, ?ya1⟩) (by assumption) ?na1
        case ya1 => (intro wS hSw; obtain ⟨s0, s1⟩ := hSw; have q0 := cell_of s1 0; have q1 := cell_of s1 1; have q2 := cell_of s1 2; have q3 := cell_of s1 3; go_simp; try rfl)
        try simp only [Act.put, List.setIfInBounds_toArray, List.set_cons_zero, List.set_cons_succ]
        refine wpAnyH_take (i := 2) (v := ?_) (ops_at rfl) (by kernel_rfl) (by kernel_rfl) (by kernel_rfl) (fun _ _ _ h => h) (Or.inl ⟨by rfl, ?ya2⟩) (by assumption) ?na2
        case ya2 => (intro wS hSw; obtain ⟨s0, s1⟩ := hSw; have q0 := cell_of s1 0; have q1 := cell_of s1 1; have q2 := cell_of s1 2; have q3 := cell_of s1 3; go_simp; try rfl)
        try simp only [Act.put, List.setIfInBounds_toArray, List.set_cons_zero, List.set_cons_succ]
        refine wpAnyH_take (i := 5) (v := ?_) (ops_at rfl) (by kernel_rfl) (by kernel_rfl) (by kernel_rfl) (fun _ _ _ h => h) (Or.inl ⟨by rfl, ?ya5⟩) (by assumption) ?na5
        case ya5 => (intro wS hSw; obtain ⟨s0, s1⟩ := hSw; have q0 := cell_of s1 0; have q1 := cell_of s1 1; have q2 := cell_of s1 2; have q3 := cell_of s1 3; go_simp; try rfl)
        try simp only [Act.put, List.setIfInBounds_toArray, List.set_cons_zero, List.set_cons_succ]
        refine wpAnyH_take (i := 6) (v := ?_) (ops_at rfl) (by kernel_rfl) (by kernel_rfl) (by kernel_rfl) (fun _ _ _ h => h) (Or.inl ⟨by rfl, ?ya6⟩) (by assumption) ?na6
        case ya6 => (intro wS hSw; obtain ⟨s0, s1⟩ := hSw; have q0 := cell_of s1 0; have q1 := cell_of s1 1; have q2 := cell_of s1 2; have q3 := cell_of s1 3; go_simp; try rfl)
        try simp only [Act.put, List.setIfInBounds_toArray, List.set_cons_zero, List.set_cons_succ]
        refine wpAnyH_take (i := 10) (v := ?_) (ops_at rfl) (by kernel_rfl) (by kernel_rfl) (by kernel_rfl) (fun _ _ _ h => h) (Or.inl ⟨by rfl, ?ya10⟩) (by assumption) ?na10
        case ya10 => (intro wS hSw; obtain ⟨s0, s1⟩ := hSw; have q0 := cell_of s1 0; have q1 := cell_of s1 1; have q2 := cell_of s1 2; have q3 := cell_of s1 3; go_simp; try rfl)
        try simp only [Act.put, List.setIfInBounds_toArray, List.set_cons_zero, List.set_cons_succ]
        refine wpAnyH_take (i := 11) (v := ?_) (ops_at rfl) (by kernel_rfl) (by kernel_rfl) (by kernel_rfl) (fun _ _ _ h => h) (Or.inl ⟨by rfl, ?ya11⟩) (by assumption) ?na11
        case ya11 => (intro wS hSw; obtain ⟨s0, s1⟩ := hSw; have q0 := cell_of s1 0; have q1 := cell_of s1 1; have q2 := cell_of s1 2; have q3 := cell_of s1 3; go_simp; try rfl)
        try simp only [Act.put, List.setIfInBounds_toArray, List.set_cons_zero, List.set_cons_succ]
        refine wpAnyH_take (i := 15) (v := ?_) (ops_at rfl) (by kernel_rfl) (by kernel_rfl) (by kernel_rfl) (fun _ _ _ h => h) (Or.inl ⟨by rfl, ?ya15⟩) (by assumption) ?na15
        case ya15 => (intro wS hSw; obtain ⟨s0, s1⟩ := hSw; have q0 := cell_of s1 0; have q1 := cell_of s1 1; have q2 := cell_of s1 2; have q3 := cell_of s1 3; go_simp; try rfl)
        try simp only [Act.put, List.setIfInBounds_toArray, List.set_cons_zero, List.set_cons_succ]
        refine wpAnyH_take (i := 16) (v := ?_) (ops_at rfl) (by kernel_rfl) (by kernel_rfl) (by kernel_rfl) (fun _ _ _ h => h) (Or.inl ⟨by rfl, ?ya16⟩) (by assumption) ?na16
        case ya16 => (intro wS hSw; obtain ⟨s0, s1⟩ := hSw; have q0 := cell_of s1 0; have q1 := cell_of s1 1; have q2 := cell_of s1 2; have q3 := cell_of s1 3; go_simp; try rfl)
        try simp only [Act.put, List.setIfInBounds_toArray, List.set_cons_zero, List.set_cons_succ]
        refine wpAnyH_ready (rs := [3]) (by kernel_rfl) (by simp) ?_
        refine AllReadyH.cons (ops_at rfl) (fun K hK => ?_) AllReadyH.nil
        go_simp
        refine (l1Num_any _ x _ hub.1.1 hub.1.2 rfl).mono ?_
        rintro e wa3 ⟨rfl, hda3⟩
        dsimp only
        refine hK.out _ _ (keep4 hH0 hda3) (fun hHa3 => ?_)
        clear hK K
        refine wpAnyH_take (i := 4) (v := ?_) (ops_at rfl) (by kernel_rfl) (by kernel_rfl) (by kernel_rfl) (fun _ _ _ h => h) (Or.inl ⟨by rfl, ?ya4⟩) (by assumption) ?na4
        case ya4 => (intro wS hSw; obtain ⟨s0, s1⟩ := hSw; have q0 := cell_of s1 0; have q1 := cell_of s1 1; have q2 := cell_of s1 2; have q3 := cell_of s1 3; go_simp; try rfl)
        try simp only [Act.put, List.setIfInBounds_toArray, List.set_cons_zero, List.set_cons_succ]
        refine wpAnyH_ready (rs := [7]) (by kernel_rfl) (by simp) ?_
        refine AllReadyH.cons (ops_at rfl) (fun K hK => ?_) AllReadyH.nil
        go_simp
        refine (l1Num_any _ y _ hub.2.1.1 hub.2.1.2 rfl).mono ?_
        rintro e wa7 ⟨rfl, hda7⟩
        dsimp only
        refine hK.out _ _ (keep4 hHa3 hda7) (fun hHa7 => ?_)
        clear hK K
        refine wpAnyH_take (i := 8) (v := ?_) (ops_at rfl) (by kernel_rfl) (by kernel_rfl) (by kernel_rfl) (fun _ _ _ h => h) (Or.inl ⟨by rfl, ?ya8⟩) (by assumption) ?na8
        case ya8 => (intro wS hSw; obtain ⟨s0, s1⟩ := hSw; have q0 := cell_of s1 0; have q1 := cell_of s1 1; have q2 := cell_of s1 2; have q3 := cell_of s1 3; go_simp; try rfl)
        try simp only [Act.put, List.setIfInBounds_toArray, List.set_cons_zero, List.set_cons_succ]
        refine wpAnyH_take (i := 9) (v := ?_) (ops_at rfl) (by kernel_rfl) (by kernel_rfl) (by kernel_rfl) (fun _ _ _ h => h) (Or.inl ⟨by rfl, ?ya9⟩) (by assumption) ?na9
        case ya9 => (intro wS hSw; obtain ⟨s0, s1⟩ := hSw; have q0 := cell_of s1 0; have q1 := cell_of s1 1; have q2 := cell_of s1 2; have q3 := cell_of s1 3; go_simp; try rfl)
        try simp only [Act.put, List.setIfInBounds_toArray, List.set_cons_zero, List.set_cons_succ]
        refine wpAnyH_ready (rs := [12]) (by kernel_rfl) (by simp) ?_
        refine AllReadyH.cons (ops_at rfl) (fun K hK => ?_) AllReadyH.nil
        go_simp
        refine (l1Num_any _ z _ hub.2.2.1.1 hub.2.2.1.2 rfl).mono ?_
        rintro e wa12 ⟨rfl, hda12⟩
        dsimp only
        refine hK.out _ _ (keep4 hHa7 hda12) (fun hHa12 => ?_)
        clear hK K
        refine wpAnyH_take (i := 13) (v := ?_) (ops_at rfl) (by kernel_rfl) (by kernel_rfl) (by kernel_rfl) (fun _ _ _ h => h) (Or.inl ⟨by rfl, ?ya13⟩) (by assumption) ?na13
        case ya13 => (intro wS hSw; obtain ⟨s0, s1⟩ := hSw; have q0 := cell_of s1 0; have q1 := cell_of s1 1; have q2 := cell_of s1 2; have q3 := cell_of s1 3; go_simp; try rfl)
        try simp only [Act.put, List.setIfInBounds_toArray, List.set_cons_zero, List.set_cons_succ]
        refine wpAnyH_take (i := 14) (v := ?_) (ops_at rfl) (by kernel_rfl) (by kernel_rfl) (by kernel_rfl) (fun _ _ _ h => h) (Or.inl ⟨by rfl, ?ya14⟩) (by assumption) ?na14
        case ya14 => (intro wS hSw; obtain ⟨s0, s1⟩ := hSw; have q0 := cell_of s1 0; have q1 := cell_of s1 1; have q2 := cell_of s1 2; have q3 := cell_of s1 3; go_simp; try rfl)
        try simp only [Act.put, List.setIfInBounds_toArray, List.set_cons_zero, List.set_cons_succ]
        refine wpAnyH_ready (rs := [17]) (by kernel_rfl) (by simp) ?_
        refine AllReadyH.cons (ops_at rfl) (fun K hK => ?_) AllReadyH.nil
        go_simp
        refine (l1Num_any _ u _ hub.2.2.2.1 hub.2.2.2.2 rfl).mono ?_
        rintro e wa17 ⟨rfl, hda17⟩
        dsimp only
        refine hK.out _ _ (keep4 hHa12 hda17) (fun hHa17 => ?_)
        clear hK K
        refine wpAnyH_take (i := 18) (v := ?_) (ops_at rfl) (by kernel_rfl) (by kernel_rfl) (by kernel_rfl) (fun _ _ _ h => h) (Or.inl ⟨by rfl, ?ya18⟩) (by assumption) ?na18
        case ya18 => (intro wS hSw; obtain ⟨s0, s1⟩ := hSw; have q0 := cell_of s1 0; have q1 := cell_of s1 1; have q2 := cell_of s1 2; have q3 := cell_of s1 3; go_simp; try rfl)
        try simp only [Act.put, List.setIfInBounds_toArray, List.set_cons_zero, List.set_cons_succ]
        refine wpAnyH_take (i := 19) (v := ?_) (ops_at rfl) (by kernel_rfl) (by kernel_rfl) (by kernel_rfl) (fun _ _ _ h => h) (Or.inl ⟨by rfl, ?ya19⟩) (by assumption) ?na19
        case ya19 => (intro wS hSw; obtain ⟨s0, s1⟩ := hSw; have q0 := cell_of s1 0; have q1 := cell_of s1 1; have q2 := cell_of s1 2; have q3 := cell_of s1 3; go_simp; try rfl)
        try simp only [Act.put, List.setIfInBounds_toArray, List.set_cons_zero, List.set_cons_succ]
        refine wpAnyH_take (i := 20) (v := ?_) (ops_at rfl) (by kernel_rfl) (by kernel_rfl) (by kernel_rfl) (fun _ _ _ h => h) (Or.inl ⟨by rfl, ?ya20⟩) (by assumption) ?na20
        case ya20 => (intro wS hSw; obtain ⟨s0, s1⟩ := hSw; have q0 := cell_of s1 0; have q1 := cell_of s1 1; have q2 := cell_of s1 2; have q3 := cell_of s1 3; go_simp; try rfl)
        try simp only [Act.put, List.setIfInBounds_toArray, List.set_cons_zero, List.set_cons_succ]
        refine wpAnyH_done (by kernel_rfl) ?_ _
        go_wp2
        go_roundw
        case rel => exact ⟨1, by omega, by go_num, by rw [HS.out]; simp only [clS, append_assocB], hbr.trans (hHa17.1.mono hzW)⟩
        case measure => simp [intOf]; omega
      · have HS := Lib.hid (joinB_next 44 h0 hw)
        have h0' : decide ((k : Int) > 0) = true := by simp; omega
        generalize hT : joinB 44 ((cs.map clS).take k) = T at *
        have hf0 := add_ok (H ++ T) ⟨#[44]⟩ (by (try simp only [ByteArray.size_append]); omega)
        have hf00 : (H.size + T.size + 1 > 9223372036854775807) = False := eq_false (by omega)
        have he1 := add_ok (H ++ T ++ ⟨#[44]⟩) (numS x ++ ⟨#[46]⟩ ++ numS y ++ ⟨#[46]⟩ ++ numS z ++ ⟨#[46]⟩ ++ numS u) (by (try simp only [ByteArray.size_append]); omega)
        have he2 : (H.size + T.size + 1 + ((numS x).size + 1 + (numS y).size + 1 + (numS z).size + 1 + (numS u).size) > 9223372036854775807) = False := eq_false (by omega)
        have HT := Lib.hid hT
        clear hle hsx hsy hsz3 hsu hd hd2 hu hw hT hW1
        go_wp2_with fail
        rw [HW1.out]
        refine wp_region_held_drew (S := (fun wq => Below W1.heap.size W1 wq ∧ wq.heap[wr.heap.size]? = some (.cells #[.int .i64 x, .int .i64 y, .int .i64 z, .int .i64 u] 44 (0, 0)))) (by kernel_rfl) ⟨(Below.refl _ _).drew, hm1⟩ (fun hH0 => ?_)
        refine wpAnyH_take (i := 0) (v := ?_) (ops_at rfl) (by kernel_rfl) (by kernel_rfl) (by kernel_rfl) (fun _ _ _ h => h) (Or.inl ⟨by rfl, ?yb0⟩) (by assumption) ?nb0
        case yb0 => (intro wS hSw; obtain ⟨s0, s1⟩ := hSw; have q0 := cell_of s1 0; have q1 := cell_of s1 1; have q2 := cell_of s1 2; have q3 := cell_of s1 3; go_simp; try rfl)
        try simp only [Act.put, List.setIfInBounds_toArray, List.set_cons_zero, List.set_cons_succ]
        refine wpAnyH_take (i := 1) (v := ?_) (ops_at rfl) (by kernel_rfl) (by kernel_rfl) (by kernel_rfl) (fun _ _ _ h => h) (Or.inl ⟨by rfl, ?yb1⟩) (by assumption) ?nb1
        case yb1 => (intro wS hSw; obtain ⟨s0, s1⟩ := hSw; have q0 := cell_of s1 0; have q1 := cell_of s1 1; have q2 := cell_of s1 2; have q3 := cell_of s1 3; go_simp; try rfl)
        try simp only [Act.put, List.setIfInBounds_toArray, List.set_cons_zero, List.set_cons_succ]
        refine wpAnyH_take (i := 2) (v := ?_) (ops_at rfl) (by kernel_rfl) (by kernel_rfl) (by kernel_rfl) (fun _ _ _ h => h) (Or.inl ⟨by rfl, ?yb2⟩) (by assumption) ?nb2
        case yb2 => (intro wS hSw; obtain ⟨s0, s1⟩ := hSw; have q0 := cell_of s1 0; have q1 := cell_of s1 1; have q2 := cell_of s1 2; have q3 := cell_of s1 3; go_simp; try rfl)
        try simp only [Act.put, List.setIfInBounds_toArray, List.set_cons_zero, List.set_cons_succ]
        refine wpAnyH_take (i := 5) (v := ?_) (ops_at rfl) (by kernel_rfl) (by kernel_rfl) (by kernel_rfl) (fun _ _ _ h => h) (Or.inl ⟨by rfl, ?yb5⟩) (by assumption) ?nb5
        case yb5 => (intro wS hSw; obtain ⟨s0, s1⟩ := hSw; have q0 := cell_of s1 0; have q1 := cell_of s1 1; have q2 := cell_of s1 2; have q3 := cell_of s1 3; go_simp; try rfl)
        try simp only [Act.put, List.setIfInBounds_toArray, List.set_cons_zero, List.set_cons_succ]
        refine wpAnyH_take (i := 6) (v := ?_) (ops_at rfl) (by kernel_rfl) (by kernel_rfl) (by kernel_rfl) (fun _ _ _ h => h) (Or.inl ⟨by rfl, ?yb6⟩) (by assumption) ?nb6
        case yb6 => (intro wS hSw; obtain ⟨s0, s1⟩ := hSw; have q0 := cell_of s1 0; have q1 := cell_of s1 1; have q2 := cell_of s1 2; have q3 := cell_of s1 3; go_simp; try rfl)
        try simp only [Act.put, List.setIfInBounds_toArray, List.set_cons_zero, List.set_cons_succ]
        refine wpAnyH_take (i := 10) (v := ?_) (ops_at rfl) (by kernel_rfl) (by kernel_rfl) (by kernel_rfl) (fun _ _ _ h => h) (Or.inl ⟨by rfl, ?yb10⟩) (by assumption) ?nb10
        case yb10 => (intro wS hSw; obtain ⟨s0, s1⟩ := hSw; have q0 := cell_of s1 0; have q1 := cell_of s1 1; have q2 := cell_of s1 2; have q3 := cell_of s1 3; go_simp; try rfl)
        try simp only [Act.put, List.setIfInBounds_toArray, List.set_cons_zero, List.set_cons_succ]
        refine wpAnyH_take (i := 11) (v := ?_) (ops_at rfl) (by kernel_rfl) (by kernel_rfl) (by kernel_rfl) (fun _ _ _ h => h) (Or.inl ⟨by rfl, ?yb11⟩) (by assumption) ?nb11
        case yb11 => (intro wS hSw; obtain ⟨s0, s1⟩ := hSw; have q0 := cell_of s1 0; have q1 := cell_of s1 1; have q2 := cell_of s1 2; have q3 := cell_of s1 3; go_simp; try rfl)
        try simp only [Act.put, List.setIfInBounds_toArray, List.set_cons_zero, List.set_cons_succ]
        refine wpAnyH_take (i := 15) (v := ?_) (ops_at rfl) (by kernel_rfl) (by kernel_rfl) (by kernel_rfl) (fun _ _ _ h => h) (Or.inl ⟨by rfl, ?yb15⟩) (by assumption) ?nb15
        case yb15 => (intro wS hSw; obtain ⟨s0, s1⟩ := hSw; have q0 := cell_of s1 0; have q1 := cell_of s1 1; have q2 := cell_of s1 2; have q3 := cell_of s1 3; go_simp; try rfl)
        try simp only [Act.put, List.setIfInBounds_toArray, List.set_cons_zero, List.set_cons_succ]
        refine wpAnyH_take (i := 16) (v := ?_) (ops_at rfl) (by kernel_rfl) (by kernel_rfl) (by kernel_rfl) (fun _ _ _ h => h) (Or.inl ⟨by rfl, ?yb16⟩) (by assumption) ?nb16
        case yb16 => (intro wS hSw; obtain ⟨s0, s1⟩ := hSw; have q0 := cell_of s1 0; have q1 := cell_of s1 1; have q2 := cell_of s1 2; have q3 := cell_of s1 3; go_simp; try rfl)
        try simp only [Act.put, List.setIfInBounds_toArray, List.set_cons_zero, List.set_cons_succ]
        refine wpAnyH_ready (rs := [3]) (by kernel_rfl) (by simp) ?_
        refine AllReadyH.cons (ops_at rfl) (fun K hK => ?_) AllReadyH.nil
        go_simp
        refine (l1Num_any _ x _ hub.1.1 hub.1.2 rfl).mono ?_
        rintro e wb3 ⟨rfl, hdb3⟩
        dsimp only
        refine hK.out _ _ (keep4 hH0 hdb3) (fun hHb3 => ?_)
        clear hK K
        refine wpAnyH_take (i := 4) (v := ?_) (ops_at rfl) (by kernel_rfl) (by kernel_rfl) (by kernel_rfl) (fun _ _ _ h => h) (Or.inl ⟨by rfl, ?yb4⟩) (by assumption) ?nb4
        case yb4 => (intro wS hSw; obtain ⟨s0, s1⟩ := hSw; have q0 := cell_of s1 0; have q1 := cell_of s1 1; have q2 := cell_of s1 2; have q3 := cell_of s1 3; go_simp; try rfl)
        try simp only [Act.put, List.setIfInBounds_toArray, List.set_cons_zero, List.set_cons_succ]
        refine wpAnyH_ready (rs := [7]) (by kernel_rfl) (by simp) ?_
        refine AllReadyH.cons (ops_at rfl) (fun K hK => ?_) AllReadyH.nil
        go_simp
        refine (l1Num_any _ y _ hub.2.1.1 hub.2.1.2 rfl).mono ?_
        rintro e wb7 ⟨rfl, hdb7⟩
        dsimp only
        refine hK.out _ _ (keep4 hHb3 hdb7) (fun hHb7 => ?_)
        clear hK K
        refine wpAnyH_take (i := 8) (v := ?_) (ops_at rfl) (by kernel_rfl) (by kernel_rfl) (by kernel_rfl) (fun _ _ _ h => h) (Or.inl ⟨by rfl, ?yb8⟩) (by assumption) ?nb8
        case yb8 => (intro wS hSw; obtain ⟨s0, s1⟩ := hSw; have q0 := cell_of s1 0; have q1 := cell_of s1 1; have q2 := cell_of s1 2; have q3 := cell_of s1 3; go_simp; try rfl)
        try simp only [Act.put, List.setIfInBounds_toArray, List.set_cons_zero, List.set_cons_succ]
        refine wpAnyH_take (i := 9) (v := ?_) (ops_at rfl) (by kernel_rfl) (by kernel_rfl) (by kernel_rfl) (fun _ _ _ h => h) (Or.inl ⟨by rfl, ?yb9⟩) (by assumption) ?nb9
        case yb9 => (intro wS hSw; obtain ⟨s0, s1⟩ := hSw; have q0 := cell_of s1 0; have q1 := cell_of s1 1; have q2 := cell_of s1 2; have q3 := cell_of s1 3; go_simp; try rfl)
        try simp only [Act.put, List.setIfInBounds_toArray, List.set_cons_zero, List.set_cons_succ]
        refine wpAnyH_ready (rs := [12]) (by kernel_rfl) (by simp) ?_
        refine AllReadyH.cons (ops_at rfl) (fun K hK => ?_) AllReadyH.nil
        go_simp
        refine (l1Num_any _ z _ hub.2.2.1.1 hub.2.2.1.2 rfl).mono ?_
        rintro e wb12 ⟨rfl, hdb12⟩
        dsimp only
        refine hK.out _ _ (keep4 hHb7 hdb12) (fun hHb12 => ?_)
        clear hK K
        refine wpAnyH_take (i := 13) (v := ?_) (ops_at rfl) (by kernel_rfl) (by kernel_rfl) (by kernel_rfl) (fun _ _ _ h => h) (Or.inl ⟨by rfl, ?yb13⟩) (by assumption) ?nb13
        case yb13 => (intro wS hSw; obtain ⟨s0, s1⟩ := hSw; have q0 := cell_of s1 0; have q1 := cell_of s1 1; have q2 := cell_of s1 2; have q3 := cell_of s1 3; go_simp; try rfl)
        try simp only [Act.put, List.setIfInBounds_toArray, List.set_cons_zero, List.set_cons_succ]
        refine wpAnyH_take (i := 14) (v := ?_) (ops_at rfl) (by kernel_rfl) (by kernel_rfl) (by kernel_rfl) (fun _ _ _ h => h) (Or.inl ⟨by rfl, ?yb14⟩) (by assumption) ?nb14
        case yb14 => (intro wS hSw; obtain ⟨s0, s1⟩ := hSw; have q0 := cell_of s1 0; have q1 := cell_of s1 1; have q2 := cell_of s1 2; have q3 := cell_of s1 3; go_simp; try rfl)
        try simp only [Act.put, List.setIfInBounds_toArray, List.set_cons_zero, List.set_cons_succ]
        refine wpAnyH_ready (rs := [17]) (by kernel_rfl) (by simp) ?_
        refine AllReadyH.cons (ops_at rfl) (fun K hK => ?_) AllReadyH.nil
        go_simp
        refine (l1Num_any _ u _ hub.2.2.2.1 hub.2.2.2.2 rfl).mono ?_
        rintro e wb17 ⟨rfl, hdb17⟩
        dsimp only
        refine hK.out _ _ (keep4 hHb12 hdb17) (fun hHb17 => ?_)
        clear hK K
        refine wpAnyH_take (i := 18) (v := ?_) (ops_at rfl) (by kernel_rfl) (by kernel_rfl) (by kernel_rfl) (fun _ _ _ h => h) (Or.inl ⟨by rfl, ?yb18⟩) (by assumption) ?nb18
        case yb18 => (intro wS hSw; obtain ⟨s0, s1⟩ := hSw; have q0 := cell_of s1 0; have q1 := cell_of s1 1; have q2 := cell_of s1 2; have q3 := cell_of s1 3; go_simp; try rfl)
        try simp only [Act.put, List.setIfInBounds_toArray, List.set_cons_zero, List.set_cons_succ]
        refine wpAnyH_take (i := 19) (v := ?_) (ops_at rfl) (by kernel_rfl) (by kernel_rfl) (by kernel_rfl) (fun _ _ _ h => h) (Or.inl ⟨by rfl, ?yb19⟩) (by assumption) ?nb19
        case yb19 => (intro wS hSw; obtain ⟨s0, s1⟩ := hSw; have q0 := cell_of s1 0; have q1 := cell_of s1 1; have q2 := cell_of s1 2; have q3 := cell_of s1 3; go_simp; try rfl)
        try simp only [Act.put, List.setIfInBounds_toArray, List.set_cons_zero, List.set_cons_succ]
        refine wpAnyH_take (i := 20) (v := ?_) (ops_at rfl) (by kernel_rfl) (by kernel_rfl) (by kernel_rfl) (fun _ _ _ h => h) (Or.inl ⟨by rfl, ?yb20⟩) (by assumption) ?nb20
        case yb20 => (intro wS hSw; obtain ⟨s0, s1⟩ := hSw; have q0 := cell_of s1 0; have q1 := cell_of s1 1; have q2 := cell_of s1 2; have q3 := cell_of s1 3; go_simp; try rfl)
        try simp only [Act.put, List.setIfInBounds_toArray, List.set_cons_zero, List.set_cons_succ]
        refine wpAnyH_done (by kernel_rfl) ?_ _
        go_wp2
        go_roundw
        case rel => exact ⟨k + 1, by omega, by go_num, by rw [HS.out]; simp only [clS, append_assocB], hbr.trans (hHb17.1.mono hzW)⟩
        case measure => simp [intOf]; omega
    · obtain rfl : k = n := by omega
      have hfin : H ++ joinB 44 ((cs.map clS).take k) = pzS t cs := by rw [pzS, HH.out, List.take_of_length_le (by rw [List.length_map, HN.out]; exact Nat.le_refl _)]
      have HFIN := Lib.hid hfin
      clear hfin
      go_wp2
      go_ret
      exact ⟨by rw [← HFIN.out]; rfl, hb⟩

set_option maxRecDepth 100000 in
set_option maxHeartbeats 4000000 in
theorem spec_PuzzleText (t : Int) (A : Option Addr) (n c : Nat) (cs : List Clu) (lo hi : Nat) (w : World) (hn : cs.length = n) (hlen : n ≤ 1048576) (hs : Seg w lo hi A (flat4 cs)) (hB : hi ≤ w.heap.size) (q : Bool) (hq : puzB t cs = q) :
    Calls Tryd.prog 6 #[pzV t A n c] w (RetPT q (somePT q (pzS t cs)) w) := by
  obtain ⟨W, hW⟩ : ∃ W, w.alloc (.cells #[.int .i64 t, .slice A n c] 30) = W := ⟨_, rfl⟩
  have z0 : Below w.heap.size w W := by rw [← hW]; exact (Below.refl _ _).alloc (Nat.le_refl _) _
  have p0 : W.heap[w.heap.size]? = some (.cells #[.int .i64 t, .slice A n c] 30 (0, 0)) := by rw [← hW]; exact new_at _ _ rfl
  have hsz := heap_lt p0
  have sW := hs.below z0 hB
  have HW := Lib.hid hW
  have HN := Lib.hid hn
  have HQ := Lib.hid hq
  clear hW hn hq
  have q0 := cell_of p0 0
  have q1 := cell_of p0 1
  simp only [List.getElem?_toArray, List.getElem?_cons_zero, List.getElem?_cons_succ] at q0 q1
  go_enter Tryd.func6, Tryd.ntmps6
  go_wp2_with fail
  rw [HW.out]
  refine (pzGood_Q t A n c cs lo hi _ HN.out hlen sW (by omega) q HQ.out).mono ?_
  rintro e v1 ⟨rfl, hb1⟩
  have hz1 := hb1.size
  have y1 := z0.trans (hb1.mono (by omega))
  have p1 := (hb1.block _ hsz).trans p0
  have s1 := sW.below hb1 (by omega)
  clear q0 q1
  have q0 := cell_of p1 0
  have q1 := cell_of p1 1
  simp only [List.getElem?_toArray, List.getElem?_cons_zero, List.getElem?_cons_succ] at q0 q1
  cases q
  · go_wp2
    go_ret2
    exact ⟨rfl, y1⟩
  · obtain ⟨⟨t1, t2⟩, h6, hcl⟩ := puzB_true.1 HQ.out
    have hn6 : n ≤ 6 := by have := HN.out; omega
    go_wp2_with fail
    refine (pzText_any t A n c cs lo hi _ HN.out hn6 (by omega) (puzB_plain HQ.out) s1 (by omega)).mono ?_
    rintro e w2 ⟨rfl, hb2⟩
    go_wp2
    go_ret2
    exact ⟨rfl, y1.trans (hb2.mono y1.size)⟩

theorem size_setQ (w : World) (p : Addr) (v : Value) : (w.setCell p v).heap.size = w.heap.size := by simp [World.setCell]

set_option maxRecDepth 100000 in
set_option maxHeartbeats 4000000 in
theorem impl_PuzzleText (t : Int) (A : Option Addr) (n c : Nat) (cs : List Clu) (lo hi : Nat) (w : World) (hn : cs.length = n) (hlen : n ≤ 1048576) (hs : Seg w lo hi A (flat4 cs)) (hB : hi ≤ w.heap.size) (q : Bool) (hq : puzB t cs = q) (hT : Tab w) :
    Calls Tryd.prog 8 #[pzV t A n c] w (RetPT q (somePT q (pzS t cs)) w) := by
  obtain ⟨W, hW⟩ : ∃ W, w.alloc (.cells #[.int .i64 t, .slice A n c] 30) = W := ⟨_, rfl⟩
  have z0 : Below w.heap.size w W := by rw [← hW]; exact (Below.refl _ _).alloc (Nat.le_refl _) _
  have p0 : W.heap[w.heap.size]? = some (.cells #[.int .i64 t, .slice A n c] 30 (0, 0)) := by rw [← hW]; exact new_at _ _ rfl
  have hsz := heap_lt p0
  have sW := hs.below z0 hB
  have HW := Lib.hid hW
  have HN := Lib.hid hn
  have HQ := Lib.hid hq
  clear hW hn hq
  have q0 := cell_of p0 0
  have q1 := cell_of p0 1
  simp only [List.getElem?_toArray, List.getElem?_cons_zero, List.getElem?_cons_succ] at q0 q1
  go_enter Tryd.func8, Tryd.ntmps8
  go_wp2_with fail
  rw [HW.out]
  refine (impl_IsPuzzleQ t A n c cs lo hi _ HN.out hlen sW (by omega) q HQ.out).mono ?_
  rintro e v1 ⟨rfl, hb1⟩
  have hz1 := hb1.size
  have y1 := z0.trans (hb1.mono (by omega))
  have p1 := (hb1.block _ hsz).trans p0
  have s1 := sW.below hb1 (by omega)
  clear q0 q1
  have q0 := cell_of p1 0
  have q1 := cell_of p1 1
  simp only [List.getElem?_toArray, List.getElem?_cons_zero, List.getElem?_cons_succ] at q0 q1
  have HT := Lib.hid hT
  clear hT
  cases q
  · go_wp2
    go_ret2
    exact ⟨rfl, y1⟩
  · obtain ⟨⟨t1, t2⟩, h6, hcl⟩ := puzB_true.1 HQ.out
    have hn6 : n ≤ 6 := by have := HN.out; omega
    have HPL := Lib.hid (puzB_plain HQ.out)
    have hv1 : w.heap.size < v1.heap.size := by omega
    have hmk := fun W : World => run_make_row' 42 45 (.slice none 0 0) 24 Tryd.underlying42 rows_info rfl .i64 .i64 n (by omega) (by omega) W
    have HS0 := Lib.hid (rows_new v1 45 n (v1.heap.size + 1) (v1.heap.size + 1) (.slice none 0 0) (cs.map rowC))
    have HB0 := Lib.hid ((Below.refl v1.heap.size v1).alloc (Nat.le_refl _) (.cells (madeCells #[.slice none 0 0] n) 45))
    go_wp2
    clear hmk q0 q1
    go_loopw [17] (fun i wr => ∃ k : Nat, k ≤ n ∧ i = .int .i64 k ∧ Below v1.heap.size v1 wr ∧ v1.heap.size < wr.heap.size ∧ RowsAt wr v1.heap.size 45 n k (v1.heap.size + 1) wr.heap.size (cs.map rowC)) (fun i _ => n - (intOf i).toNat)
    case atStart => exact ⟨0, Nat.zero_le _, rfl, HB0.out, by simp, HS0.out.more (by simp)⟩
    case round =>
      obtain ⟨k, hk, rfl, hb, hgz, hrow⟩ := hrel
      have HR := Lib.hid hrow
      have hz := hb.size
      have p2 := (hb.block _ hv1).trans p1
      clear hrow
      by_cases hlt : k < n
      · obtain ⟨bo, off, x, y, z, u, rfl, _, _, hu, hc0, hc1, hc2, hc3⟩ := (s1.below hb (by omega)).quad (k := k) (by rw [HN.out]; exact hlt)
        have HU := Lib.hid (show (cs.map rowC)[k]? = some (rowC (x, y, z, u)) by simp [hu])
        clear hu
        have hp1 := hb.alloc hz (.cells #[.int .i64 x, .int .i64 y, .int .i64 z, .int .i64 u] 44)
        have hp2 := hp1.alloc hp1.size (.cells #[.int .i64 x, .int .i64 y, .int .i64 z, .int .i64 u] 3)
        have hq2 := ((Below.refl wr.heap.size wr).alloc (Nat.le_refl _) (.cells #[.int .i64 x, .int .i64 y, .int .i64 z, .int .i64 u] 44)).alloc (by simp) (.cells #[.int .i64 x, .int .i64 y, .int .i64 z, .int .i64 u] 3)
        have hR2 := (HR.out.below hq2 hgz (Nat.le_refl _)).more hq2.size
        have hsg : Seg ((wr.alloc (.cells #[.int .i64 x, .int .i64 y, .int .i64 z, .int .i64 u] 44)).alloc (.cells #[.int .i64 x, .int .i64 y, .int .i64 z, .int .i64 u] 3)) (v1.heap.size + 1) ((wr.alloc (.cells #[.int .i64 x, .int .i64 y, .int .i64 z, .int .i64 u] 44)).alloc (.cells #[.int .i64 x, .int .i64 y, .int .i64 z, .int .i64 u] 3)).heap.size (some ⟨wr.heap.size + 1, 0, none⟩) [x, y, z, u] := by
          refine .inr ⟨wr.heap.size + 1, 0, rfl, by omega, by simp, fun j hj => ?_⟩
          have hj2 : j < 4 := hj
          rw [Nat.zero_add, cell_of (new_at _ _ (by simp))]
          match j, hj2 with
          | 0, _ => rfl
          | 1, _ => rfl
          | 2, _ => rfl
          | 3, _ => rfl
        obtain ⟨v, hv⟩ := hR2.cell hlt
        have hfz := hR2.frozen k
        have HSET := Lib.hid (hR2.set HU.out hlt (by omega) (c := 4) hsg)
        have HFIN := Lib.hid hp2
        have HZ2 := Lib.hid hq2.size
        clear hR2 hsg hp1 hp2 hq2
        go_wp2
        go_roundw
        case rel =>
          have e : (((wr.alloc (.cells #[.int .i64 x, .int .i64 y, .int .i64 z, .int .i64 u] 44)).alloc (.cells #[.int .i64 x, .int .i64 y, .int .i64 z, .int .i64 u] 3)).setCell ⟨v1.heap.size, k, none⟩ (.slice (some ⟨wr.heap.size + 1, 0, none⟩) 4 4)) = (((wr.setCell ⟨v1.heap.size, k, none⟩ (.slice (some ⟨wr.heap.size + 1, 0, none⟩) 4 4)).alloc (.cells #[.int .i64 x, .int .i64 y, .int .i64 z, .int .i64 u] 44)).alloc (.cells #[.int .i64 x, .int .i64 y, .int .i64 z, .int .i64 u] 3)) := by
            rw [World.setCell_alloc_past _ _ _ _ (by simp; omega), World.setCell_alloc_past _ _ _ _ hgz]
          refine ⟨k + 1, by omega, by go_num, by rw [← e]; exact HFIN.out.setCell (by show v1.heap.size ≤ v1.heap.size; omega) _, by rw [← e, size_setQ]; have := HZ2.out; omega, ?_⟩
          rw [← e, size_setQ]
          exact HSET.out
        case measure => simp [intOf]; omega
      · obtain rfl : k = n := by omega
        have hB1 := y1.trans (hb.mono y1.size)
        have hTr := HT.out.below hB1 (Nat.le_refl _)
        have q0 := cell_of p2 0
        have q1 := cell_of p2 1
        simp only [List.getElem?_toArray, List.getElem?_cons_zero, List.getElem?_cons_succ] at q0 q1
        go_wp2_with fail
        refine (itoa_any t _ (by omega) (by omega) hTr).mono ?_
        rintro e w2 ⟨rfl, hb2⟩
        have hz2 := hb2.size
        have hnt := numS_size (n := t) (by omega) (by omega)
        have hd0 : (⟨#[116]⟩ : ByteArray).size = 1 := rfl
        have ha0 := add_ok (numS t) ⟨#[116]⟩ (by omega)
        have hb0 : ((numS t).size + 1 > 9223372036854775807) = False := ha0
        have hTr2 := hTr.below hb2 (Nat.le_refl _)
        have HR2 := Lib.hid ((HR.out.below hb2 (by omega) (Nat.le_refl _)))
        have hjs : (joinB 44 (cs.map clS)).size ≤ 1000 := by have h := part_sizeC HPL.out h6 (cs.map clS).length; rwa [List.take_length] at h
        go_wp2_with fail
        refine (joinRows_any 46 v1.heap.size _ k _ _ (cs.map rowC) _ (by rw [List.length_map]; exact HN.out) (by omega) (rowC_plain HPL.out) HR2.out (by omega) hTr2).mono ?_
        rw [rowC_texts]
        rintro e w3 ⟨rfl, hb3⟩
        have ha1 := add_ok (numS t ++ ⟨#[116]⟩) (joinB 44 (cs.map clS)) (by (try simp only [ByteArray.size_append]); omega)
        have hb1' : ((numS t).size + 1 + (joinB 44 (cs.map clS)).size > 9223372036854775807) = False := eq_false (by omega)
        go_wp2
        go_ret2
        exact ⟨rfl, hB1.trans ((hb2.trans (hb3.mono hz2)).mono hB1.size)⟩
end Go.Proofs.YtoheoojpmndhoabDoor

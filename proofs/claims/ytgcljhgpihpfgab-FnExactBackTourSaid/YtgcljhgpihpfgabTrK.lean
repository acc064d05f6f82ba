/-
  Both programs tell a tour back.
  Conditions: none.
-/
import Derived.Test.YtgcljhgpihpfgabTrA
namespace Go.Proofs.Ytgcljhgpihpfgab
set_option linter.unusedVariables false
open Go.RowKit

/-- Loading and unloading exchanged. -/
def exchT (r : Int) : Int := if isLoad r = true then r - 32 else r + 32
def backL (L : List Int) : List Int := (L.map exchT).reverse
theorem backL_len (L : List Int) : (backL L).length = L.length := by simp [backL]
theorem exchT_bd {r : Int} (h : isLoad r = true ∨ isUnload r = true) : 65 ≤ exchT r ∧ exchT r ≤ 104 := by
  unfold exchT
  by_cases h1 : isLoad r = true
  · have := isLoad_true.1 h1; rw [if_pos h1]; omega
  · rw [if_neg h1]
    rcases h with h | h
    · exact absurd h h1
    · have := isUnload_true.1 h; omega
theorem backL_bd {L : List Int} (h : ∀ c ∈ L, isLoad c = true ∨ isUnload c = true) : ∀ x ∈ backL L, 65 ≤ x ∧ x ≤ 104 := by
  intro x hx
  unfold backL at hx
  rw [List.mem_reverse, List.mem_map] at hx
  obtain ⟨c, hc, rfl⟩ := hx
  exact exchT_bd (h c hc)
/-- A tour told back, if nothing is left in the van. -/
def backS (s : ByteArray) : ByteArray := strU (backL (lettersT s))
def askB (s : ByteArray) : Bool := match tourT s with | some t => t.op.isEmpty | none => false
theorem askB_some {s : ByteArray} {t : Trip} (h : tourT s = some t) : askB s = t.op.isEmpty := by unfold askB; rw [h]
theorem askB_none {s : ByteArray} (h : isTB s = false) : askB s = false := by
  unfold isTB at h; unfold askB
  cases e : tourT s with
  | none => rfl
  | some t => rw [e] at h; cases h

/-- The row behind so many letters. -/
def rowR (L : List Int) (k : Nat) : List Int := List.replicate (L.length - k) 0 ++ ((L.take k).map exchT).reverse
theorem rowR_len {L : List Int} {k : Nat} (h : k ≤ L.length) : (rowR L k).length = L.length := by simp [rowR]; omega
theorem rowR_step {L : List Int} {k : Nat} {r : Int} (h : L[k]? = some r) : (rowR L k).set (L.length - 1 - k) (exchT r) = rowR L (k + 1) := by
  have hk := (List.getElem?_eq_some_iff.1 h).1
  obtain ⟨m, hm⟩ : ∃ m, L.length - k = m + 1 := ⟨L.length - k - 1, by omega⟩
  unfold rowR
  rw [hm, show L.length - 1 - k = m by omega, show L.length - (k + 1) = m by omega, List.replicate_succ', List.append_assoc, List.set_append_right _ _ (by simp), List.take_add_one, h]
  simp
theorem rowR_end (L : List Int) : rowR L L.length = backL L := by simp [rowR, backL]
theorem backL_next {L : List Int} {m : Nat} {r : Int} (h : L[L.length - 1 - m]? = some r) (hm : m < L.length) : (backL L).take (m + 1) = (backL L).take m ++ [exchT r] := by
  have e : (backL L)[m]? = some (exchT r) := by
    unfold backL
    rw [List.getElem?_reverse (by simpa using hm), List.length_map, List.getElem?_map, h]; rfl
  rw [List.take_add_one, e]; rfl

/-- A block of bytes known whole. -/
def ArrU (w : World) (g : Nat) (ys : List Int) : Prop := ∃ cs : Array Value, w.heap[g]? = some (.cells cs 5 (0, 0)) ∧ cs.toList = ys.map (Value.int .u8)
section
variable {w w' : World} {g : Nat} {ys : List Int}
theorem ArrU.cell (h : ArrU w g ys) {k : Nat} {u : Int} (hu : ys[k]? = some u) : w.cell? ⟨g, k, none⟩ = some (.int .u8 u) := by
  obtain ⟨cs, hb, hc⟩ := h
  rw [cell_of hb, ← Array.getElem?_toList, hc, List.getElem?_map, hu]; rfl
theorem ArrU.frozen (h : ArrU w g ys) (k : Nat) : w.frozen? ⟨g, k, none⟩ = false := by obtain ⟨cs, hb, _⟩ := h; exact frozen_of hb k
theorem ArrU.set (h : ArrU w g ys) (k : Nat) (u : Int) : ArrU (w.setCell ⟨g, k, none⟩ (.int .u8 u)) g (ys.set k u) := by
  obtain ⟨cs, hb, hc⟩ := h
  exact ⟨_, set_self hb k _, by rw [Array.toList_setIfInBounds, hc, List.map_set]⟩
theorem ArrU.keep (h : ArrU w g ys) (e : w'.heap[g]? = w.heap[g]?) : ArrU w' g ys := by obtain ⟨cs, hb, h2⟩ := h; exact ⟨cs, e.trans hb, h2⟩
theorem ArrU.lt (h : ArrU w g ys) : g < w.heap.size := by obtain ⟨cs, hb, _⟩ := h; exact heap_lt hb
theorem ArrU.own (h : ArrU w g ys) (hm : ys.length ≤ 1000) : OwnU w g (some ⟨g, 0, none⟩) ys.length ys.length ys := by
  obtain ⟨cs, hb, hc⟩ := h
  have hl : cs.size = ys.length := by rw [← Array.length_toList, hc, List.length_map]
  refine ⟨by simp, .inr ⟨g, ys.length, cs, rfl, Nat.le_refl _, hb, Nat.le_refl _, by unfold maxLen; omega, by simp [hl], ?_⟩⟩
  rw [hc, List.take_of_length_le (by simp)]
end

set_option maxRecDepth 100000 in
set_option maxHeartbeats 2000000 in
theorem impl_BackTour (s : ByteArray) (q : Bool) (w : World) (hq : askB s = q) (v : ByteArray) (hv : backS s = v) :
    Calls Try.prog 22 #[.string s] w fun e w' => e = .returned (.tuple #[.string (if q then v else ⟨#[]⟩), .bool q]) ∧ Below w.heap.size w w' := by
  cases hb0 : isTB s with
  | false =>
    have hf : q = false := by rw [← hq]; exact askB_none hb0
    subst hf
    have HC := Lib.hid (trip_no s w hb0)
    clear hq hv hb0
    go_enter Try.func22, Try.ntmps22
    go_wp2_with fail
    refine HC.out.mono ?_
    rintro e w1 ⟨rfl, hb⟩
    have hb2 := hb.alloc hb.size (.cells #[.slice none 0 0, .slice none 0 0, .int .i64 0, .bool false] 37)
    go_wp2
    go_ret2
    exact ⟨rfl, hb2⟩
  | true =>
    obtain ⟨t, ht⟩ := Option.isSome_iff_exists.1 hb0
    rw [askB_some ht] at hq
    have HC := Lib.hid (trip_yes s t w ht)
    by_cases hem : t.op = []
    case neg =>
      have hf : q = false := by rw [← hq]; cases e : t.op with | nil => exact absurd e hem | cons x xs => rfl
      subst hf
      have HE := Lib.hid hem
      clear hq hv hb0 ht hem
      go_enter Try.func22, Try.ntmps22
      go_wp2_with fail
      refine HC.out.mono ?_
      rintro e w1 ⟨A, n, c, B, m, d, rfl, hb, hA, hB⟩
      have hl := hB.len
      have hm0 : 0 < m := by rcases Nat.eq_zero_or_pos m with e | e; exact absurd (List.length_eq_zero_iff.1 (hl.trans e)) HE.out; exact e
      have hm : decide ((m : Int) > 0) = true := decide_eq_true (by omega)
      clear hA hB hl
      go_wp2
      go_ret2
      exact ⟨rfl, hb.alloc hb.size _⟩
    have hf : q = true := by rw [← hq, hem]; rfl
    subst hf
    obtain ⟨hsz, hall⟩ := tourT_letters hb0
    obtain ⟨L, hL⟩ : ∃ L, lettersT s = L := ⟨_, rfl⟩
    have hLl : L.length = s.size := by rw [← hL, letters_len]
    unfold backS at hv
    rw [hL] at hv hall
    have HE := Lib.hid hem
    have HL := Lib.hid hL
    have HV := Lib.hid hv
    have HALL := Lib.hid hall
    have hmk := fun W : World => run_make_row' 35 5 (.int .u8 0) 1 Try.underlying35 u8_info rfl .i64 .i64 s.size (by omega) (by omega) W
    clear hq hv hb0 ht hem hL hall
    go_enter Try.func22, Try.ntmps22
    go_wp2_with fail
    refine HC.out.mono ?_
    rintro e w1 ⟨A, n, c, B, m, d, rfl, hb, hA, hB⟩
    have hl := hB.len
    rw [HE.out] at hl
    obtain rfl : m = 0 := by simpa using hl.symm
    have hs1 := hb.size
    clear hA hB hl
    go_wp2
    clear hmk
    have hbl : Below w.heap.size w (((w1.alloc (.cells #[.slice A n c, .slice B 0 d, .int .i64 t.full, .bool t.blk] 37)).alloc (.cells (madeCells #[.int .u8 0] s.size) 5)).iter s 0) := ((hb.alloc hb.size _).alloc (by simp; omega) _).alloc (by simp; omega) _
    have hit : (((w1.alloc (.cells #[.slice A n c, .slice B 0 d, .int .i64 t.full, .bool t.blk] 37)).alloc (.cells (madeCells #[.int .u8 0] s.size) 5)).iter s 0).heap[w1.heap.size + 1 + 1]? = some (.stringIter s 0) := by
      have := World.iter_heap ((w1.alloc (.cells #[.slice A n c, .slice B 0 d, .int .i64 t.full, .bool t.blk] 37)).alloc (.cells (madeCells #[.int .u8 0] s.size) 5)) s 0
      simpa using this
    have har : ArrU (((w1.alloc (.cells #[.slice A n c, .slice B 0 d, .int .i64 t.full, .bool t.blk] 37)).alloc (.cells (madeCells #[.int .u8 0] s.size) 5)).iter s 0) (w1.heap.size + 1) (rowR L 0) := by
      refine ⟨madeCells #[.int .u8 0] s.size, ?_, ?_⟩
      · have h2 : (((w1.alloc (.cells #[.slice A n c, .slice B 0 d, .int .i64 t.full, .bool t.blk] 37)).alloc (.cells (madeCells #[.int .u8 0] s.size) 5)).iter s 0).heap[(w1.heap.size + 1)]? = ((w1.alloc (.cells #[.slice A n c, .slice B 0 d, .int .i64 t.full, .bool t.blk] 37)).alloc (.cells (madeCells #[.int .u8 0] s.size) 5)).heap[(w1.heap.size + 1)]? := alloc_old _ (by simp <;> omega) _
        rw [h2]
        exact new_at _ _ (by simp)
      · rw [toList_madeCells_one]
        simp [rowR, hLl]
    have HB0 := Lib.hid hbl
    have HI0 := Lib.hid hit
    have HA0 := Lib.hid har
    clear hbl hit har hb
    go_loopw [] (fun wr => ∃ k : Nat, k ≤ s.size ∧ wr.heap[w1.heap.size + 1 + 1]? = some (.stringIter s k) ∧ ArrU wr (w1.heap.size + 1) (rowR L k) ∧ Below w.heap.size w wr) (fun wr => s.size - wr.iterPos (w1.heap.size + 1 + 1))
    case atStart => exact ⟨0, by omega, HI0.out, HA0.out, HB0.out⟩
    case round =>
      obtain ⟨k, hk, hit, har, hb⟩ := hrel
      have HM := Lib.hid (iterTo_pos hit)
      by_cases hlt : k < s.size
      · obtain ⟨ch, hch⟩ := byte_get s hlt
        have hik := byte_at s hch hlt
        have hcL : L[k]? = some (ch.toNat : Int) := by rw [← HL.out]; exact u8_at hch
        have hlu := HALL.out _ (List.mem_of_getElem? hcL)
        obtain ⟨r, hr⟩ : ∃ r : Int, (ch.toNat : Int) = r := ⟨_, rfl⟩
        rw [hr] at hcL hlu
        have hbd : (65 ≤ r ∧ r ≤ 72) ∨ (97 ≤ r ∧ r ≤ 104) := by
          rcases hlu with h | h
          · have := isLoad_true.1 h; omega
          · have := isUnload_true.1 h; omega
        have hd := decode_ascii s k hlt (by rw [hik]; omega)
        rw [hik] at hd
        have hnx := fun ty => next_at (P := Try.prog) wr (w1.heap.size + 1 + 1) s k ty hit hlt
        rw [hd] at hnx
        simp only [hr] at hnx
        have hF : ∀ W : World, Calls Try.prog 39 #[.int .u8 r] W fun e w' => e = .returned (.int .u8 (exchT r)) ∧ W = w' := by
          intro W
          unfold exchT
          rcases hbd with hbd | hbd
          · rw [if_neg (by rw [isLoad_true]; omega)]; exact exchanged_up r W hbd
          · rw [if_pos (by rw [isLoad_true]; omega)]; exact exchanged_down r W hbd
        have hwr : IntKind.u8.wrap r = r := by rw [IntKind.wrap_u8]; omega
        have hst := rowR_step hcL
        obtain ⟨x, hx⟩ : ∃ x, exchT r = x := ⟨_, rfl⟩
        rw [hx] at hF hst
        obtain ⟨j, hj⟩ : ∃ j, s.size - 1 - k = j := ⟨_, rfl⟩
        rw [hLl, hj] at hst
        have hw1 : wrap64 ((s.size : Int) - 1) = (s.size : Int) - 1 := by unfold wrap64; omega
        have hw2 : wrap64 ((s.size : Int) - 1 - (k : Int)) = (j : Int) := by unfold wrap64; omega
        have hjs : (j : Int) < (s.size : Int) := by omega
        have hb2 : Below w.heap.size w (iterTo wr (w1.heap.size + 1 + 1) s (k + 1)) := iterTo_below hb (by omega)
        have hi2 : (iterTo wr (w1.heap.size + 1 + 1) s (k + 1)).heap[w1.heap.size + 1 + 1]? = some (.stringIter s (k + 1)) := iterTo_here (heap_lt hit)
        have ha2 : ArrU (iterTo wr (w1.heap.size + 1 + 1) s (k + 1)) (w1.heap.size + 1) (rowR L k) := har.keep (iterTo_far (by omega))
        obtain ⟨W, hW⟩ : ∃ W, iterTo wr (w1.heap.size + 1 + 1) s (k + 1) = W := ⟨_, rfl⟩
        rw [hW] at hnx hb2 hi2 ha2
        have hc0 := ha2.cell (k := j) (u := 0) (by unfold rowR; rw [List.getElem?_append_left (by rw [List.length_replicate]; omega), List.getElem?_replicate, if_pos (by omega)])
        have hf0 := ha2.frozen j
        have HF := Lib.hid hF
        have HB2 := Lib.hid hb2
        have HI2 := Lib.hid hi2
        have HA2 := Lib.hid ha2
        have HST := Lib.hid hst
        clear hch hik hcL hlu hbd hr hd hst hx hF hb2 hi2 ha2 hit har hb hW
        go_wp2_with fail
        refine (HF.out _).mono ?_
        rintro e w3 ⟨rfl, rfl⟩
        go_wp2
        have ha3 := HA2.out.set j x
        rw [HST.out] at ha3
        have hi3 : (W.setCell ⟨(w1.heap.size + 1), j, none⟩ (.int .u8 x)).heap[w1.heap.size + 1 + 1]? = some (.stringIter s (k + 1)) := by
          exact (set_far _ (by simp) _).trans HI2.out
        go_roundw
        case rel => exact ⟨k + 1, by omega, hi3, ha3, HB2.out.setCell (p := ⟨w1.heap.size + 1, j, none⟩) (show w.heap.size ≤ w1.heap.size + 1 by omega) _⟩
        case measure => rw [HM.out, iterTo_pos hi3]; omega
      · obtain rfl : k = s.size := by omega
        have hnx := fun ty => next_off (P := Try.prog) wr (w1.heap.size + 1 + 1) s s.size ty hit hlt
        rw [← hLl, rowR_end] at har
        have hown := (har.own (by rw [backL_len]; omega))
        rw [backL_len, hLl] at hown
        have hcv := row_text hown (fun x hx => by have := backL_bd HALL.out x hx; omega)
        rw [HV.out] at hcv
        have HB := Lib.hid hb
        clear hit har hown hb HM
        go_wp2
        go_ret2
        exact ⟨rfl, HB.out⟩

set_option maxRecDepth 100000 in
set_option maxHeartbeats 2000000 in
theorem spec_BackTour (s : ByteArray) (q : Bool) (w : World) (hq : askB s = q) (v : ByteArray) (hv : backS s = v) :
    Calls Try.prog 21 #[.string s] w fun e w' => e = .returned (.tuple #[.string (if q then v else ⟨#[]⟩), .bool q]) ∧ Below w.heap.size w w' := by
  have hb0 : Below w.heap.size w w := Below.refl _ _
  have HB0 := Lib.hid hb0
  cases hb1 : isTB s with
  | false =>
    have hf : q = false := by rw [← hq]; exact askB_none hb1
    subst hf
    have HC := Lib.hid (ldTour_any s _ w hb1)
    clear hq hv hb0 hb1
    go_enter Try.func21, Try.ntmps21
    go_wp2_with fail
    refine HC.out.mono ?_
    rintro e w1 ⟨rfl, hb⟩
    go_wp2
    go_ret2
    exact ⟨rfl, hb⟩
  | true =>
    obtain ⟨t, ht⟩ := Option.isSome_iff_exists.1 hb1
    rw [askB_some ht] at hq
    have HC := Lib.hid (ldTour_any s _ w hb1)
    have HO := Lib.hid (fun W => ldOpen_some s t W ht)
    have hem := strU_none t.op
    rw [hq] at hem
    obtain ⟨o, ho⟩ : ∃ o, strU t.op = o := ⟨_, rfl⟩
    rw [ho] at hem HO
    cases hqq : q with
    | false =>
      rw [hqq] at hem
      clear hq hv hb0 hb1 ht ho hqq
      go_enter Try.func21, Try.ntmps21
      go_wp2_with fail
      refine HC.out.mono ?_
      rintro e w1 ⟨rfl, hb⟩
      have hs1 := hb.size
      go_wp2_with fail
      refine (HO.out _).mono ?_
      rintro e w2 ⟨rfl, hb2⟩
      go_wp2
      go_ret2
      exact ⟨rfl, hb.trans (hb2.mono hs1)⟩
    | true =>
      rw [hqq] at hem
      obtain ⟨hsz, hall⟩ := tourT_letters hb1
      obtain ⟨L, hL⟩ : ∃ L, lettersT s = L := ⟨_, rfl⟩
      have hLl : L.length = s.size := by rw [← hL, letters_len]
      unfold backS at hv
      rw [hL] at hv hall
      have HL := Lib.hid hL
      have HV := Lib.hid hv
      have HALL := Lib.hid hall
      have hs0 : 0 < s.size ∨ s.size = 0 := by omega
      clear hq hv hb0 hb1 ht ho hqq hL hall
      go_enter Try.func21, Try.ntmps21
      go_wp2_with fail
      refine HC.out.mono ?_
      rintro e w1 ⟨rfl, hb⟩
      have hs1 := hb.size
      go_wp2_with fail
      refine (HO.out _).mono ?_
      rintro e w2 ⟨rfl, hb2⟩
      have HB2 := Lib.hid (hb.trans (hb2.mono hs1))
      clear hb hb2 hs1
      have hw0 : wrap64 ((s.size : Int) - 1) = (s.size : Int) - 1 := by unfold wrap64; omega
      go_wp2
      go_loopw [7, 8] (fun o i wr => ∃ (m : Nat), m ≤ s.size ∧ i = .int .i64 ((s.size : Int) - 1 - (m : Int)) ∧ o = .string (strU ((backL L).take m)) ∧ Below w.heap.size w wr) (fun _ i _ => (intOf i + 1).toNat)
      case atStart => exact ⟨0, by omega, by simp, rfl, HB2.out⟩
      case round =>
        obtain ⟨m, hm, rfl, rfl, hb⟩ := hrel
        have HB := Lib.hid hb
        clear hb
        by_cases hlt : m < s.size
        · obtain ⟨j, hj⟩ : ∃ j, s.size - 1 - m = j := ⟨_, rfl⟩
          have hjI : (s.size : Int) - 1 - (m : Int) = (j : Int) := by omega
          obtain ⟨c, hc⟩ := byte_get s (k := j) (by omega)
          have hik := byte_at s hc
          have hcL : L[j]? = some (c.toNat : Int) := by rw [← HL.out]; exact letters_at hc
          have hlu := HALL.out _ (List.mem_of_getElem? hcL)
          obtain ⟨r, hr⟩ : ∃ r : Int, (c.toNat : Int) = r := ⟨_, rfl⟩
          rw [hr] at hcL hlu
          have hik2 : ∀ hk : j < s.size, ((s[j]'hk).toNat : Int) = r := fun hk => by rw [hik hk]; exact hr
          have hr255 : 0 ≤ r ∧ r ≤ 255 := by have := c.toNat_lt; omega
          have hsmall := fun W => ldSmall_any r W hr255
          have hnx := backL_next (L := L) (m := m) (r := r) (by rw [hLl, hj]; exact hcL) (by omega)
          have hbd := exchT_bd hlu
          obtain ⟨x, hx⟩ : ∃ x, exchT r = x := ⟨_, rfl⟩
          rw [hx] at hbd hnx
          obtain ⟨cx, hcx⟩ : ∃ cx : UInt8, (cx.toNat : Int) = x := ⟨UInt8.ofNat x.toNat, by rw [UInt8.toNat_ofNat']; omega⟩
          have henc := encode_one cx (by omega)
          rw [hcx] at henc
          have ha1 := fun W => run_string_add_lists (P := Try.prog) W (ofI ((backL L).take m)) [cx] (by rw [ofI_len, List.length_take]; omega) (by simp)
          have he1 : (⟨(ofI ((backL L).take m) ++ [cx]).toArray⟩ : ByteArray) = strU ((backL L).take (m + 1)) := by rw [hnx, strU, ofI_append, ← hcx, ofI_one]
          rw [he1] at ha1
          change ∀ W, (Op.stringOp .add (strU ((backL L).take m)) _).run _ W = _ at ha1
          obtain ⟨cb, hcb⟩ : ∃ cb : ByteArray, (⟨[cx].toArray⟩ : ByteArray) = cb := ⟨_, rfl⟩
          rw [hcb] at henc ha1
          have hjs : j < s.size := by omega
          have hwn : wrap64 ((j : Int) - 1) = (j : Int) - 1 := by unfold wrap64; omega
          have hxw : IntKind.i32.wrap x = x := by rw [IntKind.wrap_i32]; omega
          by_cases h1 : isLoad r = true
          · have hbr := isLoad_true.1 h1
            have hs1 : smallT r = r := by unfold smallT; rw [if_pos h1]
            have hx2 : x = r - 32 := by rw [← hx]; unfold exchT; rw [if_pos h1]
            have hu1 : IntKind.u8.wrap (r - 97) = r - 97 := by rw [IntKind.wrap_u8]; omega
            have hu2 : IntKind.u8.wrap (r - 97 + 65) = x := by rw [IntKind.wrap_u8]; omega
            have hlt2 : decide (r < 97) = false := decide_eq_false (by omega)
            rw [hs1] at hsmall
            have HS := Lib.hid hsmall
            clear hc hik hcL hlu hr hsmall hnx hbd hx hcx he1 hcb h1 hs1 hx2
            rw [hjI]
            go_wp2_with fail
            refine (HS.out _).mono ?_
            rintro e w3 ⟨rfl, rfl⟩
            go_wp2
            go_roundw
            case rel => exact ⟨m + 1, by omega, by go_num, rfl, HB.out⟩
            case measure => simp [intOf]
          · have h1' : isLoad r = false := by simpa using h1
            have h2 : isUnload r = true := by rcases hlu with e | e; rw [h1'] at e; cases e; exact e
            have hbr := isUnload_true.1 h2
            have hs1 : smallT r = r + 32 := by unfold smallT; rw [h1', if_neg (by simp), if_pos h2]
            have hx2 : x = r + 32 := by rw [← hx]; unfold exchT; rw [if_neg h1]
            have hlt2 : decide (r < 97) = true := decide_eq_true (by omega)
            have d1 : (x == r) = false := beq_eq_false_iff_ne.2 (by omega)
            rw [hs1, ← hx2] at hsmall
            have HS := Lib.hid hsmall
            clear hc hik hcL hlu hr hsmall hnx hbd hx hcx he1 hcb h1 h1' h2 hs1 hx2
            rw [hjI]
            go_wp2_with fail
            refine (HS.out _).mono ?_
            rintro e w3 ⟨rfl, rfl⟩
            go_wp2_with fail
            refine (HS.out _).mono ?_
            rintro e w3 ⟨rfl, rfl⟩
            go_wp2
            go_roundw
            case rel => exact ⟨m + 1, by omega, by go_num, rfl, HB.out⟩
            case measure => simp [intOf]
        · obtain rfl : m = s.size := by omega
          have hlt2 : decide ((s.size : Int) - 1 - (s.size : Int) ≥ 0) = false := decide_eq_false (by omega)
          rw [List.take_of_length_le (by rw [backL_len]; omega), HV.out]
          go_wp2
          go_ret2
          exact ⟨rfl, HB.out⟩
end Go.Proofs.Ytgcljhgpihpfgab

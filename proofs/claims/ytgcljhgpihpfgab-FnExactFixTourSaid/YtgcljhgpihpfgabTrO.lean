/-
  The written program's van behind a whole tour.
  Conditions: none.
-/
import Derived.Test.YtgcljhgpihpfgabTrM
namespace Go.Proofs.Ytgcljhgpihpfgab
set_option linter.unusedVariables false
open Go.RowKit

/-- A place in a text that is ranged over. -/
def iterTo (W : World) (IT : Nat) (s : ByteArray) (p : Nat) : World := { W with heap := W.heap.setIfInBounds IT (.stringIter s p) }
theorem next_at {P : Program} (W : World) (IT : Nat) (s : ByteArray) (pos : Nat) (ty : TypeId) (hW : W.heap[IT]? = some (.stringIter s pos)) (h : pos < s.size) :
    (Instr.next (.pointer (some ⟨IT, 0, none⟩)) true ty).run P W = .ok (.tuple #[.bool true, .int .i64 pos, .int .i32 (Utf8.decode s pos).1]) (iterTo W IT s (pos + (Utf8.decode s pos).2)) := by
  simp only [Instr.next, getObj, setObj, Sem.run_bind, Sem.run, hW, Result.andThen, h, if_true, iterTo]
  simp [goInt]
theorem next_off {P : Program} (W : World) (IT : Nat) (s : ByteArray) (pos : Nat) (ty : TypeId) (hW : W.heap[IT]? = some (.stringIter s pos)) (h : ¬ pos < s.size) :
    (Instr.next (.pointer (some ⟨IT, 0, none⟩)) true ty).run P W = .ok (.tuple #[.bool false]) W := by
  simp [Instr.next, getObj, Sem.run, hW, h]
theorem iterTo_here {W : World} {IT : Nat} {s : ByteArray} {p : Nat} (h : IT < W.heap.size) : (iterTo W IT s p).heap[IT]? = some (.stringIter s p) := by
  simp [iterTo, Array.getElem?_setIfInBounds_self_of_lt h]
theorem iterTo_far {W : World} {IT k : Nat} {s : ByteArray} {p : Nat} (h : IT ≠ k) : (iterTo W IT s p).heap[k]? = W.heap[k]? := by
  simp [iterTo, Array.getElem?_setIfInBounds_ne h]
theorem iterTo_size (W : World) (IT : Nat) (s : ByteArray) (p : Nat) : (iterTo W IT s p).heap.size = W.heap.size := by simp [iterTo]
theorem iterTo_below {B : Nat} {w W : World} {IT : Nat} {s : ByteArray} {p : Nat} (h : Below B w W) (hB : B ≤ IT) : Below B w (iterTo W IT s p) :=
  ⟨h.os, h.tape, h.output, by rw [iterTo_size]; exact h.size, fun k hk => (iterTo_far (by omega)).trans (h.block k hk)⟩
theorem iterTo_pos {W : World} {IT p : Nat} {s : ByteArray} (h : W.heap[IT]? = some (.stringIter s p)) : W.iterPos IT = p := by
  simp [World.iterPos, h]

theorem OwnU.wide {w : World} {base base' : Nat} {A : Option Addr} {n c : Nat} {xs : List Int} (h : OwnU w base A n c xs) (hb : base' ≤ base) : OwnU w base' A n c xs := by
  refine ⟨h.1, ?_⟩
  rcases id h.2 with h' | ⟨g, cap, cur, h', hbg, h3⟩
  · exact .inl h'
  · exact .inr ⟨g, cap, cur, h', by omega, h3⟩

/-- The letters of a text. -/
def lettersT (s : ByteArray) : List Int := u8 s.data.toList
/-- The van behind a text, if it is a tour. -/
def tourT (s : ByteArray) : Option Trip := if s.size ≤ 16 then runT (lettersT s) else none

/-- How a tour's van is told. -/
def TripRet (s : ByteArray) (w : World) (e : Ending) (w' : World) : Prop :=
  match tourT s with
  | none => e = .returned (.tuple #[.agg #[.slice none 0 0, .slice none 0 0, .int .i64 0, .bool false], .bool false]) ∧ Below w.heap.size w w'
  | some t => ∃ A n c B m d, e = .returned (.tuple #[.agg #[.slice A n c, .slice B m d, .int .i64 t.full, .bool t.blk], .bool true]) ∧ Below w.heap.size w w' ∧ OwnU w' w.heap.size A n c t.ld ∧ OwnU w' w.heap.size B m d t.op

theorem set_four {W : World} {R T : Nat} {F : Nat × Nat} {x0 x1 x2 x3 : Value} (h : W.heap[R]? = some (.cells #[x0, x1, x2, x3] T F)) (a b c d : Value) :
    ((((W.setCell ⟨R, 0, none⟩ a).setCell ⟨R, 1, none⟩ b).setCell ⟨R, 2, none⟩ c).setCell ⟨R, 3, none⟩ d).heap[R]? = some (.cells #[a, b, c, d] T F) := by
  simp [World.setCell, Array.getElem?_modify, h]
theorem below_four {B : Nat} {w W : World} {R : Nat} (h : Below B w W) (hB : B ≤ R) (a b c d : Value) : Below B w ((((W.setCell ⟨R, 0, none⟩ a).setCell ⟨R, 1, none⟩ b).setCell ⟨R, 2, none⟩ c).setCell ⟨R, 3, none⟩ d) :=
  (((h.setCell hB a).setCell hB b).setCell hB c).setCell hB d
theorem only_four (W : World) (R : Nat) (a b c d : Value) : Only (fun k => k = R) W ((((W.setCell ⟨R, 0, none⟩ a).setCell ⟨R, 1, none⟩ b).setCell ⟨R, 2, none⟩ c).setCell ⟨R, 3, none⟩ d) :=
  ((((Only.refl (fun k => k = R) W).setCell (p := ⟨R, 0, none⟩) rfl a).setCell (p := ⟨R, 1, none⟩) rfl b).setCell (p := ⟨R, 2, none⟩) rfl c).setCell (p := ⟨R, 3, none⟩) rfl d

theorem runT_small {l : List Int} {t : Trip} (h : runT l = some t) : t.full ≤ (l.length : Int) ∧ t.ld.length ≤ l.length := by
  refine runT_ind (P := fun l t => t.full ≤ (l.length : Int) ∧ t.ld.length ≤ l.length) ⟨by simp [trip0], by simp [trip0]⟩ ?_ h
  rintro l t c t' hr ⟨h1, h2⟩ hs
  have h3 := (runT_keeps hr).2.1
  rcases stepT_cases hs with ⟨hc, hn, rfl⟩ | ⟨hc, hu, hat, rfl⟩
  · simp only [List.length_append, List.length_singleton]
    omega
  · simp only [List.length_append, List.length_singleton]
    omega
theorem stepT_high {t : Trip} {r : Int} (h : 128 ≤ r) : stepT t r = none := by
  refine stepT_no ?_ ?_
  · cases e : isLoad r with
    | false => rfl
    | true => have := isLoad_true.1 e; omega
  · cases e : isUnload r with
    | false => rfl
    | true => have := isUnload_true.1 e; omega

theorem TripW.iter {W : World} {P base n c m d IT p : Nat} {t : Trip} {A B : Option Addr} {s : ByteArray} (h : TripW W P base t A n c B m d) (hP : P ≠ IT) (hb : IT < base) : TripW (iterTo W IT s p) P base t A n c B m d := by
  have hrow : ∀ {A : Option Addr} {n c : Nat} {xs : List Int}, OwnU W base A n c xs → OwnU (iterTo W IT s p) base A n c xs := by
    intro A n c xs h
    refine ⟨h.1, ?_⟩
    rcases id h.2 with h' | ⟨g, cap, cur, h', hbg, hg, h3⟩
    · exact .inl h'
    · exact .inr ⟨g, cap, cur, h', hbg, (iterTo_far (by omega)).trans hg, h3⟩
  exact ⟨(iterTo_far (Ne.symm hP)).trans h.self, hrow h.ld, hrow h.op, h.ap1, h.ap2, h.ap⟩

set_option maxRecDepth 100000 in
set_option maxHeartbeats 4000000 in
theorem tripOf_any (s : ByteArray) (w : World) : Calls Try.prog 34 #[.string s] w (TripRet s w) := by
  by_cases hbig : 16 < s.size
  · have ht : tourT s = none := by unfold tourT; rw [if_neg (by omega)]
    unfold TripRet
    rw [ht]
    clear ht
    have hb1 : Below w.heap.size w (w.alloc (.cells #[.slice none 0 0, .slice none 0 0, .int .i64 0, .bool false] 37)) := (Below.refl _ _).alloc (Nat.le_refl _) _
    go_enter Try.func34, Try.ntmps34
    go_wp2
    have hz := new_at w (.cells #[.slice none 0 0, .slice none 0 0, .int .i64 0, .bool false] 37) rfl
    have d0 := cell_of hz 0
    have d1 := cell_of hz 1
    have d2 := cell_of hz 2
    have d3 := cell_of hz 3
    exact bodyPost_ret (v := .tuple #[.agg #[.slice none 0 0, .slice none 0 0, .int .i64 0, .bool false], .bool false]) (by simp [results, Try.results34, go_sem, d0, d1, d2, d3]) rfl ⟨rfl, hb1⟩
  have hts : tourT s = runT (lettersT s) := by unfold tourT; rw [if_pos (by omega)]
  obtain ⟨L, hL⟩ : ∃ L, lettersT s = L := ⟨_, rfl⟩
  have hLl : L.length = s.size := by rw [← hL]; unfold lettersT; rw [u8_len, byte_len]
  rw [hL] at hts
  have HTS := Lib.hid hts
  have HL := Lib.hid hL
  clear hts hL
  go_enter Try.func34, Try.ntmps34
  go_wp2
  have hb0 : Below w.heap.size w (((w.alloc (.cells #[.slice none 0 0, .slice none 0 0, .int .i64 0, .bool false] 37)).alloc (.cells #[.slice none 0 0, .slice none 0 0, .int .i64 0, .bool false] 37)).iter s 0) := (((Below.refl _ _).alloc (Nat.le_refl _) _).alloc (by simp) _).alloc (by simp <;> omega) _
  have hi0 : (((w.alloc (.cells #[.slice none 0 0, .slice none 0 0, .int .i64 0, .bool false] 37)).alloc (.cells #[.slice none 0 0, .slice none 0 0, .int .i64 0, .bool false] 37)).iter s 0).heap[w.heap.size + 2]? = some (.stringIter s 0) := by
    have := World.iter_heap ((w.alloc (.cells #[.slice none 0 0, .slice none 0 0, .int .i64 0, .bool false] 37)).alloc (.cells #[.slice none 0 0, .slice none 0 0, .int .i64 0, .bool false] 37)) s 0
    simpa using this
  have hr0 : (((w.alloc (.cells #[.slice none 0 0, .slice none 0 0, .int .i64 0, .bool false] 37)).alloc (.cells #[.slice none 0 0, .slice none 0 0, .int .i64 0, .bool false] 37)).iter s 0).heap[w.heap.size]? = some (.cells #[.slice none 0 0, .slice none 0 0, .int .i64 0, .bool false] 37 (0, 0)) := by
    have h2 : (((w.alloc (.cells #[.slice none 0 0, .slice none 0 0, .int .i64 0, .bool false] 37)).alloc (.cells #[.slice none 0 0, .slice none 0 0, .int .i64 0, .bool false] 37)).iter s 0).heap[w.heap.size]? = ((w.alloc (.cells #[.slice none 0 0, .slice none 0 0, .int .i64 0, .bool false] 37)).alloc (.cells #[.slice none 0 0, .slice none 0 0, .int .i64 0, .bool false] 37)).heap[w.heap.size]? := alloc_old _ (by simp <;> omega) _
    rw [h2, alloc_old _ (by simp)]
    exact new_at w _ rfl
  have hp0 : (((w.alloc (.cells #[.slice none 0 0, .slice none 0 0, .int .i64 0, .bool false] 37)).alloc (.cells #[.slice none 0 0, .slice none 0 0, .int .i64 0, .bool false] 37)).iter s 0).heap[w.heap.size + 1]? = some (.cells #[.slice none 0 0, .slice none 0 0, .int .i64 0, .bool false] 37 (0, 0)) := by
    have h2 : (((w.alloc (.cells #[.slice none 0 0, .slice none 0 0, .int .i64 0, .bool false] 37)).alloc (.cells #[.slice none 0 0, .slice none 0 0, .int .i64 0, .bool false] 37)).iter s 0).heap[w.heap.size + 1]? = ((w.alloc (.cells #[.slice none 0 0, .slice none 0 0, .int .i64 0, .bool false] 37)).alloc (.cells #[.slice none 0 0, .slice none 0 0, .int .i64 0, .bool false] 37)).heap[w.heap.size + 1]? := alloc_old _ (by simp <;> omega) _
    rw [h2]
    exact new_at _ _ (by simp)
  have ht0 : TripW (((w.alloc (.cells #[.slice none 0 0, .slice none 0 0, .int .i64 0, .bool false] 37)).alloc (.cells #[.slice none 0 0, .slice none 0 0, .int .i64 0, .bool false] 37)).iter s 0) (w.heap.size + 1) (w.heap.size + 3) trip0 none 0 0 none 0 0 := ⟨hp0, World.ownsRow_nil _ _ _ _, World.ownsRow_nil _ _ _ _, (fun g e => by cases e), (fun g e => by cases e), (fun g e => by cases e)⟩
  have HB0 := Lib.hid hb0
  have HI0 := Lib.hid hi0
  have HR0 := Lib.hid hr0
  have HT0 := Lib.hid ht0
  clear hb0 hi0 hr0 hp0 ht0
  go_loopw [] (fun wr => ∃ (k : Nat) (t : Trip) (A : Option Addr) (n c : Nat) (B : Option Addr) (m d : Nat), k ≤ s.size ∧ Hid (runT (L.take k) = some t) ∧ TripW wr (w.heap.size + 1) (w.heap.size + 3) t A n c B m d ∧ wr.heap[w.heap.size + 2]? = some (.stringIter s k) ∧ wr.heap[w.heap.size]? = some (.cells #[.slice none 0 0, .slice none 0 0, .int .i64 0, .bool false] 37 (0, 0)) ∧ Below w.heap.size w wr) (fun wr => s.size - wr.iterPos (w.heap.size + 2))
  case atStart => exact ⟨0, trip0, none, 0, 0, none, 0, 0, by omega, rfl, HT0.out, HI0.out, HR0.out, HB0.out⟩
  case round =>
    obtain ⟨k, t, A, n, c, B, m, d, hk, HRUN, htw, hit, hres, hb⟩ := hrel
    have HM := Lib.hid (iterTo_pos hit)
    by_cases hlt : k < s.size
    · obtain ⟨ch, hch⟩ := byte_get s hlt
      have hik := byte_at s hch hlt
      have hcL : L[k]? = some (ch.toNat : Int) := by rw [← HL.out]; exact u8_at hch
      have hnext := runT_take hcL
      rw [HRUN.out] at hnext
      have hnext2 : runT (L.take (k + 1)) = stepT t (ch.toNat : Int) := hnext
      have hsm := runT_small HRUN.out
      have hkp := runT_keeps HRUN.out
      rw [List.length_take] at hsm
      have hln := htw.ld.len
      have hlm := htw.op.len
      obtain ⟨r, wd, hr, hwd, hra⟩ : ∃ (r : Int) (wd : Nat), ((Utf8.decode s k).1 : Int) = r ∧ (Utf8.decode s k).2 = wd ∧ ((ch.toNat < 128 ∧ r = (ch.toNat : Int) ∧ wd = 1) ∨ (128 ≤ ch.toNat ∧ 128 ≤ r)) := by
        by_cases ha : ch.toNat < 128
        · have hd := decode_ascii s k hlt (by rw [hik]; exact ha)
          rw [hik] at hd
          exact ⟨_, _, rfl, rfl, .inl ⟨ha, by rw [hd], by rw [hd]⟩⟩
        · have hd := (decode_high s k hlt (by rw [hik]; omega)).1
          exact ⟨_, _, rfl, rfl, .inr ⟨by omega, by omega⟩⟩
      have hr0 : 0 ≤ r := by omega
      have hnx := fun ty => next_at (P := Try.prog) wr (w.heap.size + 2) s k ty hit hlt
      rw [hr, hwd] at hnx
      have hstep : stepT t r = runT (L.take (k + 1)) := by
        rw [hnext2]
        rcases hra with ⟨_, h1, _⟩ | ⟨h1, h2⟩
        · rw [h1]
        · rw [stepT_high h2, stepT_high (by omega)]
      have hw2 := htw.iter (s := s) (p := k + wd) (IT := w.heap.size + 2) (by omega) (by omega)
      have hF := follow_any (w.heap.size + 1) (w.heap.size + 3) t A n c B m d r _ hw2 hr0 (by omega) (by omega) (by rw [iterTo_size]; have := htw.lt; have := heap_lt hit; omega) (by omega) (fun y hy => by have := isLoad_true.1 (hkp.2.2.2.1 y hy); omega)
      have hb2 : Below w.heap.size w (iterTo wr (w.heap.size + 2) s (k + wd)) := iterTo_below hb (by omega)
      have hi2 : (iterTo wr (w.heap.size + 2) s (k + wd)).heap[w.heap.size + 2]? = some (.stringIter s (k + wd)) := iterTo_here (heap_lt hit)
      have hr2 := (iterTo_far (W := wr) (IT := w.heap.size + 2) (s := s) (p := k + wd) (k := w.heap.size) (by omega)).trans hres
      have hA : ∀ g, A = some ⟨g, 0, none⟩ → w.heap.size + 3 ≤ g := fun g e => (htw.ld.lt_ e).1
      have hBB : ∀ g, B = some ⟨g, 0, none⟩ → w.heap.size + 3 ≤ g := fun g e => (htw.op.lt_ e).1
      obtain ⟨W, hW⟩ : ∃ W, iterTo wr (w.heap.size + 2) s (k + wd) = W := ⟨_, rfl⟩
      rw [hW] at hnx hF hb2 hi2 hr2
      unfold FollowTo at hF
      rw [hstep] at hF
      have HF := Lib.hid hF
      have HB2 := Lib.hid hb2
      have HI2 := Lib.hid hi2
      have HR2 := Lib.hid hr2
      have HA := Lib.hid hA
      have HBB := Lib.hid hBB
      have hwd1 : (∃ t', runT (L.take (k + 1)) = some t') → wd = 1 := by
        rintro ⟨t', e⟩
        rcases hra with ⟨_, _, h1⟩ | ⟨h1, h2⟩
        · exact h1
        · rw [← hstep, stepT_high h2] at e; cases e
      have HWD := Lib.hid hwd1
      clear hch hik hcL hnext hnext2 hsm hkp hln hlm hr hwd hra hstep hw2 hF hb2 hi2 hr2 hA hBB hW hwd1 hit htw hres hb hr0
      cases hrn : runT (L.take (k + 1)) with
      | none =>
        have hnone : runT L = none := runT_none (k + 1) hrn
        rw [hrn] at HF
        have HNONE := Lib.hid hnone
        clear hrn hnone
        go_wp2_with fail
        refine HF.out.mono ?_
        rintro e w3 ⟨rfl, hb3⟩
        have hr3 := (hb3.block w.heap.size (by have := heap_lt HR2.out; omega)).trans HR2.out
        have r0 := cell_of hr3 0
        have r1 := cell_of hr3 1
        have r2 := cell_of hr3 2
        have r3 := cell_of hr3 3
        have rf0 := frozen_of hr3 0
        have rf1 := frozen_of hr3 1
        have rf2 := frozen_of hr3 2
        have rf3 := frozen_of hr3 3
        have hb4 := HB2.out.trans (hb3.mono HB2.out.size)
        have HR3 := Lib.hid hr3
        have HB4 := Lib.hid hb4
        clear hb3 hr3 hb4
        go_wp2
        have d0 := cell_of (set_four HR3.out (.slice none 0 0) (.slice none 0 0) (.int .i64 0) (.bool false)) 0
        have d1 := cell_of (set_four HR3.out (.slice none 0 0) (.slice none 0 0) (.int .i64 0) (.bool false)) 1
        have d2 := cell_of (set_four HR3.out (.slice none 0 0) (.slice none 0 0) (.int .i64 0) (.bool false)) 2
        have d3 := cell_of (set_four HR3.out (.slice none 0 0) (.slice none 0 0) (.int .i64 0) (.bool false)) 3
        refine bodyPost_ret (v := .tuple #[.agg #[.slice none 0 0, .slice none 0 0, .int .i64 0, .bool false], .bool false]) (by simp [results, Try.results34, go_sem, d0, d1, d2, d3]) rfl ?_
        unfold TripRet
        rw [HTS.out, HNONE.out]
        exact ⟨rfl, below_four HB4.out (Nat.le_refl _) _ _ _ _⟩
      | some t' =>
        rw [hrn] at HF
        have hw1 := HWD.out ⟨t', hrn⟩
        have HRN := Lib.hid hrn
        subst hw1
        clear hrn
        go_wp2_with fail
        refine HF.out.mono ?_
        rintro e w3 ⟨rfl, A', n', c', B', m', d', ht3, ho3, _, _⟩
        have hkeep : ∀ k, k < w.heap.size + 3 → k ≠ w.heap.size + 1 → w3.heap[k]? = W.heap[k]? := fun k hk hne => ho3.block k (by have := heap_lt HI2.out; omega) (fun hs => by
          rcases hs with e | e | e
          · exact hne e
          · have := HA.out k e; omega
          · have := HBB.out k e; omega)
        have hi3 := (hkeep (w.heap.size + 2) (by omega) (by omega)).trans HI2.out
        have hr3 := (hkeep w.heap.size (by omega) (by omega)).trans HR2.out
        have hb3 := HB2.out.trans (ho3.below HB2.out.size (fun k hs => by
          rcases hs with e | e | e
          · omega
          · have := HA.out k e; omega
          · have := HBB.out k e; omega))
        have HT3 := Lib.hid ht3
        have HI3 := Lib.hid hi3
        have HR3 := Lib.hid hr3
        have HB3 := Lib.hid hb3
        have HP3 := Lib.hid (iterTo_pos hi3)
        clear ht3 ho3 hkeep hi3 hr3 hb3
        go_wp2
        go_roundw
        case rel => exact ⟨k + 1, t', A', n', c', B', m', d', by omega, HRN, HT3.out, HI3.out, HR3.out, HB3.out⟩
        case measure => rw [HM.out, HP3.out]; omega
    · obtain rfl : k = s.size := by omega
      have hnx := fun ty => next_off (P := Try.prog) wr (w.heap.size + 2) s s.size ty hit hlt
      have hrun := HRUN.out
      rw [List.take_of_length_le (by omega)] at hrun
      have HRN := Lib.hid hrun
      obtain ⟨c0, c1, c2, c3⟩ := htw.cells
      have f0 := htw.free 0
      have f1 := htw.free 1
      have f2 := htw.free 2
      have f3 := htw.free 3
      have r0 := cell_of hres 0
      have r1 := cell_of hres 1
      have r2 := cell_of hres 2
      have r3 := cell_of hres 3
      have rf0 := frozen_of hres 0
      have rf1 := frozen_of hres 1
      have rf2 := frozen_of hres 2
      have rf3 := frozen_of hres 3
      have HT := Lib.hid htw
      have HRR := Lib.hid hres
      have HB := Lib.hid hb
      clear hit hrun htw hres hb HM HRUN
      go_wp2
      have d0 := cell_of (set_four HRR.out (.slice A n c) (.slice B m d) (.int .i64 t.full) (.bool t.blk)) 0
      have d1 := cell_of (set_four HRR.out (.slice A n c) (.slice B m d) (.int .i64 t.full) (.bool t.blk)) 1
      have d2 := cell_of (set_four HRR.out (.slice A n c) (.slice B m d) (.int .i64 t.full) (.bool t.blk)) 2
      have d3 := cell_of (set_four HRR.out (.slice A n c) (.slice B m d) (.int .i64 t.full) (.bool t.blk)) 3
      refine bodyPost_ret (v := .tuple #[.agg #[.slice A n c, .slice B m d, .int .i64 t.full, .bool t.blk], .bool true]) (by simp [results, Try.results34, go_sem, d0, d1, d2, d3]) rfl ?_
      unfold TripRet
      rw [HTS.out, HRN.out]
      have ho := only_four wr w.heap.size (.slice A n c) (.slice B m d) (.int .i64 t.full) (.bool t.blk)
      have hA : ∀ g, A = some ⟨g, 0, none⟩ → ¬ g = w.heap.size := fun g e => by have := (HT.out.ld.lt_ e).1; omega
      have hBB : ∀ g, B = some ⟨g, 0, none⟩ → ¬ g = w.heap.size := fun g e => by have := (HT.out.op.lt_ e).1; omega
      exact ⟨A, n, c, B, m, d, rfl, below_four HB.out (Nat.le_refl _) _ _ _ _, (HT.out.ld.only ho hA).wide (by omega), (HT.out.op.only ho hBB).wide (by omega)⟩
end Go.Proofs.Ytgcljhgpihpfgab

/-
  The given program's list of all choices, in their order.
  Conditions: at most ten items.
-/
import Derived.Test.YtmgloknghoeheaaSuS
import Derived.Test.YtmgloknghoeheaaL1Own
import Derived.Test.YtmgloknghoeheaaRws
namespace Go.Proofs.Ytmgloknghoeheaa
set_option linter.unusedVariables false
open Go.RowKit

theorem rowsT_info : (Try.prog.info? 31).map (fun i => (i.zero, i.size, i.bytes)) = some (some (.slice none 0 0), 1, 24) := by kernel_rfl

theorem rws_one {w : World} {base m c : Nat} {B : Option Addr} {xs : List Int} (hb : base ≤ w.heap.size) (hm : xs.length = m) (h : Own w base w.heap.size B xs) :
    Rws (w.alloc (.cells #[.slice B m c] 31)) base (.slice (some ⟨w.heap.size, 0, none⟩) 1 1) [xs] [.slice B m c] := by
  have hbb := (Below.refl w.heap.size w).alloc (Nat.le_refl _) (.cells #[.slice B m c] 31)
  refine ⟨⟨rfl, .inr ⟨w.heap.size, 1, _, rfl, hb, new_at w _ rfl, Nat.le_refl _, by unfold maxLen; omega, rfl, rfl⟩⟩, rfl, fun j ys hj => ?_⟩
  have hj0 : j = 0 := by
    have := (List.getElem?_eq_some_iff.1 hj).1
    simp at this
    exact this
  subst hj0
  obtain rfl : xs = ys := by simpa using hj
  refine ⟨B, c, by rw [hm]; rfl, (h.below hbb (Nat.le_refl _)).more (Nat.le_refl _) (by simp), fun hx g hB e => ?_⟩
  have h1 := (h.lt_ hx hB).2
  injection e with e
  have h2 : w.heap.size = g := e
  omega

/-- Of what was there, only the cell at 'P' and the block 'ob' may have turned. -/
def Lk (P : Nat) (ob : Option Nat) (w w' : World) : Prop := Only (fun b => b = P ∨ ob = some b) w w'
/-- The row lies where it lay, or in new memory. -/
def Loc (w : World) (ob ob' : Option Nat) : Prop := ob' = ob ∨ ∃ g, ob' = some g ∧ w.heap.size ≤ g
theorem Loc.refl (w : World) (ob : Option Nat) : Loc w ob ob := .inl rfl
theorem Loc.trans {w w' : World} {a b c : Option Nat} (h : Loc w a b) (k : Loc w' b c) (hs : w.heap.size ≤ w'.heap.size) : Loc w a c := by
  rcases k with rfl | ⟨g, e, hg⟩
  · exact h
  · exact .inr ⟨g, e, by omega⟩
theorem Lk.refl (P : Nat) (ob : Option Nat) (w : World) : Lk P ob w w := Only.refl _ _
theorem Lk.trans {P : Nat} {w w' w2 : World} {a b : Option Nat} (h : Lk P a w w') (hl : Loc w a b) (k : Lk P b w' w2) : Lk P a w w2 := by
  refine ⟨k.os.trans h.os, k.tape.trans h.tape, k.output.trans h.output, Nat.le_trans h.size k.size, fun i hi hs => ?_⟩
  have hi' : i < w'.heap.size := Nat.lt_of_lt_of_le hi h.size
  refine (k.block i hi' fun hs' => ?_).trans (h.block i hi hs)
  rcases hs' with e | e
  · exact hs (.inl e)
  · rcases hl with e' | ⟨g, e', hg⟩
    · exact hs (.inr (e' ▸ e))
    · rw [e'] at e
      injection e with e
      omega
theorem Lk.below {P : Nat} {w w' w2 : World} {a : Option Nat} (h : Lk P a w w') (k : Below w'.heap.size w' w2) : Lk P a w w2 := Only.trans h (Only.of_below k (Nat.le_refl _))
theorem Lk.toBelow {P b0 : Nat} {w w' : World} {a : Option Nat} (h : Lk P a w w') (h0 : b0 ≤ w.heap.size) (hP : b0 ≤ P) (ha : ∀ g, a = some g → b0 ≤ g) : Below b0 w w' :=
  Only.below h h0 fun k hk => by
    rcases hk with e | e
    · omega
    · exact ha k e
theorem Lk.set {P : Nat} {w w' : World} {a : Option Nat} (h : Lk P a w w') (u : Value) : Lk P a w (w'.setCell ⟨P, 0, none⟩ u) := Only.setCell h (p := ⟨P, 0, none⟩) (.inl rfl) u

/-- A list in a block of its own, which is neither 'P' nor 'ob'. -/
def BegAt (w : World) (P b0 : Nat) (ob : Option Nat) (A : Option Addr) (xs : List Int) : Prop :=
  xs = [] ∨ ∃ g, A = some ⟨g, 0, none⟩ ∧ b0 ≤ g ∧ g ≠ P ∧ ob ≠ some g ∧ g < w.heap.size ∧ Own w g (g + 1) A xs
theorem BegAt.nil_ (w : World) (P b0 : Nat) (ob : Option Nat) (A : Option Addr) : BegAt w P b0 ob A [] := .inl rfl
theorem BegAt.of_own {w : World} {P b0 lo : Nat} {ob : Option Nat} {A : Option Addr} {xs : List Int} (h : Own w lo w.heap.size A xs) (h0 : b0 ≤ lo) (hP : P < lo) (ho : ∀ g, ob = some g → g < lo) : BegAt w P b0 ob A xs := by
  rcases id h with h | ⟨b, cs, T, e, h1, h2, hb, hc⟩
  · exact .inl h
  · exact .inr ⟨b, e, by omega, by omega, fun e' => by have := ho b e'; omega, h2, .inr ⟨b, cs, T, e, Nat.le_refl _, Nat.lt_succ_self _, hb, hc⟩⟩
theorem BegAt.seg {w : World} {P b0 : Nat} {ob : Option Nat} {A : Option Addr} {xs : List Int} (h : BegAt w P b0 ob A xs) : Seg w 0 w.heap.size A xs := by
  rcases h with h | ⟨g, e, _, _, _, hg, ho⟩
  · exact .inl h
  · exact ho.seg.more (Nat.zero_le _) hg
theorem BegAt.own {w : World} {P b0 : Nat} {ob : Option Nat} {A : Option Addr} {xs : List Int} (h : BegAt w P b0 ob A xs) : Own w b0 w.heap.size A xs := by
  rcases h with h | ⟨g, e, h0, _, _, hg, ho⟩
  · exact .inl h
  · exact ho.more h0 hg
theorem BegAt.lk {w w' : World} {P b0 : Nat} {ob ob' : Option Nat} {A : Option Addr} {xs : List Int} (h : BegAt w P b0 ob A xs) (k : Lk P ob w w') (hl : Loc w ob ob') : BegAt w' P b0 ob' A xs := by
  rcases h with h | ⟨g, e, h0, h1, h2, hg, ho⟩
  · exact .inl h
  · refine .inr ⟨g, e, h0, h1, fun e' => ?_, Nat.lt_of_lt_of_le hg k.size, ho.keep fun b hb1 hb2 => k.block b (by omega) fun hs => ?_⟩
    · rcases hl with hl | ⟨g', e2, hg'⟩
      · exact h2 (hl ▸ e')
      · rw [e2] at e'
        injection e' with e'
        omega
    · obtain rfl : b = g := by omega
      exact hs.elim h1 h2
theorem BegAt.below {w w' : World} {P b0 : Nat} {ob : Option Nat} {A : Option Addr} {xs : List Int} (h : BegAt w P b0 ob A xs) (k : Below w.heap.size w w') : BegAt w' P b0 ob A xs :=
  h.lk (Only.of_below k (Nat.le_refl _)) (.inl rfl)
theorem rows_beg {w : World} {P b0 m c : Nat} {ob : Option Nat} {A : Option Addr} {xs : List Int} (h : BegAt w P b0 ob A xs) (hm : xs.length = m) : Rows1 w b0 ob [xs] [.slice A m c] := by
  refine ⟨rfl, fun j ys hj => ?_⟩
  have hj0 : j = 0 := by
    have := (List.getElem?_eq_some_iff.1 hj).1
    simp at this
    exact this
  subst hj0
  obtain rfl : xs = ys := by simpa using hj
  refine ⟨A, c, by rw [hm]; rfl, h.own, fun hx g hA e => ?_⟩
  rcases h with h | ⟨g', e', h0, h1, h2, hg, ho⟩
  · exact hx h
  · rw [e'] at hA
    injection hA with hA
    injection hA with hA
    subst hA
    exact h2 e

theorem Lk.grown {P : Nat} {w w' w2 : World} {a : Option Nat} (h : Lk P a w w') (hl : ∀ g, a = some g → g < w.heap.size) (k : w'.grownBy w2 a) : Lk P a w w2 :=
  Only.trans h ⟨k.os, k.tape, k.output, k.size, fun i hi hs => k.block i hi fun e => hs (.inr e.symm)⟩
/-- The cell at 'P' is written. -/
theorem Rws.setP {w : World} {P b0 T : Nat} {v u : Value} {B : Option Addr} {n c : Nat} {L : List (List Int)} {vs : List Value} (h : Rws w b0 v L vs) (hP : w.heap[P]? = some (.cells #[.slice B n c] T (0, 0))) (hf : v.ownBlock ≠ some P) : Rws (w.setCell ⟨P, 0, none⟩ u) b0 v L vs := by
  have hg := grown_set (World.grownBy.refl w (some P)) (p := ⟨P, 0, none⟩) rfl u
  refine ⟨h.1.kept hg (.inr fun e => hf e), h.2.1, fun j xs hj => ?_⟩
  obtain ⟨B', c', e, ho, ho2⟩ := h.2.2 j xs hj
  refine ⟨B', c', e, (ho.grownFar hg (Nat.le_refl _) fun hx g hB e' => ?_).more (Nat.le_refl _) hg.size, ho2⟩
  injection e' with e'
  subst e'
  rcases ho with ho | ⟨b, cs, T', e1, _, _, hb, hc⟩
  · exact hx ho
  · rw [hB] at e1
    injection e1 with e1
    injection e1 with e1
    subst e1
    rw [hP] at hb
    injection hb with hb
    injection hb with hb _
    subst hb
    have := hc 0 (List.length_pos_iff.2 hx)
    simp at this

/-- All choices that go on from one have come behind those that were there. -/
def RetLook (P b0 : Nat) (ob : Option Nat) (L : List (List Int)) (w : World) (e : Ending) (w' : World) : Prop :=
  e = .returned (.tuple #[]) ∧ ∃ v vs, Rws w' b0 v L vs ∧ w'.heap[P]? = some (.cells #[v] 66 (0, 0)) ∧ Lk P ob w w' ∧ Loc w ob v.ownBlock

set_option maxRecDepth 100000 in
set_option maxHeartbeats 4000000 in
theorem suLook_any (P b0 : Nat) (A : Option Addr) (n c : Nat) (W B : Int) (ts : List (Int × Int × Int)) (lo hi : Nat) (hn : ts.length = n) (hg : OkI ts) (hib : hi ≤ b0) (hbP : b0 ≤ P) (r : Nat) :
    ∀ (k0 : Nat) (kk : Int) (beg : List Int) (m c2 : Nat) (A2 : Option Addr) (L : List (List Int)) (v : Value) (vs : List Value) (w : World), kk = (k0 : Int) → k0 + r = n → BegI ts k0 beg → beg.length = m → BegAt w P b0 v.ownBlock A2 beg → Rws w b0 v L vs → w.heap[P]? = some (.cells #[v] 66 (0, 0)) → v.ownBlock ≠ some P →
      L.length + (kidsC ts W B r beg).length + 1 ≤ 4096 → Seg w lo hi A (flat3 ts) → b0 ≤ w.heap.size →
      Calls Try.prog 84 #[.slice A n c, .agg #[.int .i64 W, .int .i64 B], .slice A2 m c2, .int .i64 kk, .pointer (some ⟨P, 0, none⟩)] w (RetLook P b0 v.ownBlock (L ++ beg :: kidsC ts W B r beg) w) := by
  induction r using Nat.strongRecOn with
  | _ r ih =>
    intro k0 kk beg m c2 A2 L v vs w hkk hk hbeg hm hba hrw hP hfar hL hs hb0
    obtain ⟨i0, hi0, hz0, hz1, hz2⟩ := info_parts int_info
    obtain ⟨j0, hj0, hy0, hy1, hy2⟩ := info_parts rowsT_info
    subst hkk
    have hn10 : n ≤ 10 := by rw [← hn]; exact hg.len
    have hm10 : m ≤ 10 := by have := hbeg.len; have := hg.len; omega
    have hPlt := heap_lt hP
    have IH := Lib.hid ih
    have HN := Lib.hid hn
    have HG := Lib.hid hg
    have HM := Lib.hid hm
    have HBEG := Lib.hid hbeg
    have HK := Lib.hid hk
    have HKR := Lib.hid (show n - k0 = r by omega)
    -- the suitcase's cell
    have hbx := (Below.refl w.heap.size w).alloc (Nat.le_refl _) (.cells #[.int .i64 W, .int .i64 B] 34)
    obtain ⟨w1, hw1⟩ : ∃ w1, w.alloc (.cells #[.int .i64 W, .int .i64 B] 34) = w1 := ⟨_, rfl⟩
    have hsz1 : w1.heap.size = w.heap.size + 1 := by rw [← hw1]; simp
    have HC1 := Lib.hid (show w1.heap[w.heap.size]? = some (.cells #[.int .i64 W, .int .i64 B] 34 (0, 0)) by rw [← hw1]; exact new_at w _ rfl)
    rw [hw1] at hbx
    have HW1 := Lib.hid hw1
    have HBX := Lib.hid hbx
    have HBA1 := Lib.hid (hba.below hbx)
    have HRW1 := Lib.hid (hrw.below hbx)
    have HP1 := Lib.hid ((hbx.block P hPlt).trans hP)
    have hPc : w1.cell? ⟨P, 0, none⟩ = some v := cell_of HP1.out 0
    have hPf : w1.frozen? ⟨P, 0, none⟩ = false := frozen_of HP1.out 0
    have HS1 := Lib.hid (hs.below hbx (by omega))
    have HOB := Lib.hid (show ∀ g, v.ownBlock = some g → b0 ≤ g ∧ g < w.heap.size from fun g e => hrw.1.lt g e)
    obtain ⟨B3, d3, rfl⟩ := hrw.form
    obtain ⟨nv, hnv⟩ : ∃ nv, L.length = nv := ⟨_, rfl⟩
    rw [hnv] at HRW1 HOB hfar hL hPc HP1 HBA1 ⊢
    have HNV := Lib.hid hnv
    -- the row of one
    have HONE := Lib.hid (show Rws (w1.alloc (.cells #[.slice A2 m c2] 31)) b0 (.slice (some ⟨w.heap.size + 1, 0, none⟩) 1 1) [beg] [.slice A2 m c2] by rw [← hsz1]; exact rws_one (c := c2) (by omega) hm HBA1.out.own)
    have hbx2 := (Below.refl w1.heap.size w1).alloc (Nat.le_refl _) (.cells #[.slice A2 m c2] 31)
    have HRW2 := Lib.hid (HRW1.out.below hbx2)
    have HBA2 := Lib.hid (HBA1.out.below hbx2)
    have HBX2 := Lib.hid hbx2
    have hnv2 : nv + 1 ≤ 4194304 := by omega
    have hPw : w.cell? ⟨P, 0, none⟩ = some (.slice B3 nv d3) := by rw [hnv] at hP; exact cell_of hP 0
    have HTL := Lib.hid (show ((L ++ beg :: kidsC ts W B r beg).length ≤ 4096) by rw [List.length_append, List.length_cons, HNV.out]; omega)
    have hs0 := hs
    clear ih hn hg hm hbeg hk hw1 hbx hba hrw hP hs hnv hbx2 hPc hPf
    go_enter Try.func84, Try.ntmps84
    go_wp2_with (at_builtin; rw [HW1.out]; refine wpList_append_rows _ rfl _ _ 66 rfl b0 31 j0 Try.underlying66 hj0 hy0 hy1 hy2 _ nv vs rfl (by have h := HRW2.out.1; rw [HNV.out] at h; exact h) _ _ 1 [.slice A2 m c2] rfl HONE.out.1 HONE.out.2.one hnv2 (by have := HBX2.out.size; omega) ?_; intro v3 w3 hown3 hgr3 hloc3; obtain ⟨B4, d4, rfl⟩ := ownsRow_form hown3; have hP3 : w3.heap[P]? = some (.cells #[.slice B3 nv d3] 66 (0, 0)) := (hgr3.block P (by simp; omega) (fun e => hfar e.symm)).trans ((HBX2.out.block P (by omega)).trans HP1.out); have hc3 := cell_of hP3 0; have hf3 := frozen_of hP3 0; have HP3 := Lib.hid hP3; have HO3 := Lib.hid hown3; have HG3 := Lib.hid hgr3; have HL3 := Lib.hid hloc3; clear hP3 hown3 hgr3 hloc3)
    have HLK3 := Lib.hid (show Lk P (Value.slice B3 nv d3).ownBlock w w3 from (((Lk.refl P _ w).below HBX.out).below HBX2.out).grown (fun g e => (HOB.out g e).2) HG3.out)
    have HR3 := Lib.hid (HRW2.out.app (rows_beg HBA2.out HM.out) (by rw [HNV.out]; exact HO3.out) HG3.out HL3.out)
    have HLO3 := Lib.hid (show Loc w (Value.slice B3 nv d3).ownBlock (Value.slice B4 (nv + 1) d4).ownBlock from HL3.out.imp id fun e => ⟨_, e, by simp; omega⟩)
    have HOF3 := Lib.hid (show (Value.slice B4 (nv + 1) d4).ownBlock ≠ some P ∧ (Value.slice B4 (nv + 1) d4).ownBlock ≠ some w.heap.size from by
      rcases HL3.out with e | e
      · rw [e]; exact ⟨hfar, fun e' => by have := (HOB.out _ e').2; omega⟩
      · rw [e]
        refine ⟨fun e' => ?_, fun e' => ?_⟩
        all_goals
          injection e' with e'
          simp at e'
          omega)
    have HLK13 := Lib.hid (show Lk P (Value.slice B3 nv d3).ownBlock w1 w3 from ((Lk.refl P _ w1).below HBX2.out).grown (fun g e => by have := (HOB.out g e).2; omega) HG3.out)
    have HC3 := Lib.hid (show w3.heap[w.heap.size]? = some (.cells #[.int .i64 W, .int .i64 B] 34 (0, 0)) from (HLK13.out.block _ (by omega) (fun hs => by rcases hs with e | e; omega; have := (HOB.out _ e).2; omega)).trans HC1.out)
    have HBA3 := Lib.hid (HBA1.out.lk (w' := w3) HLK13.out (show Loc w1 _ (Value.slice B4 (nv + 1) d4).ownBlock from HL3.out.imp id fun e => ⟨_, e, by simp⟩))
    have HLK4 := Lib.hid (HLK3.out.set (.slice B4 (nv + 1) d4))
    have HR4 := Lib.hid (HR3.out.setP (u := .slice B4 (nv + 1) d4) HP3.out HOF3.out.1)
    have HP4 := Lib.hid (show (w3.setCell ⟨P, 0, none⟩ (.slice B4 (nv + 1) d4)).heap[P]? = some (.cells #[.slice B4 (nv + 1) d4] 66 (0, 0)) from (set_self HP3.out 0 _).trans rfl)
    have HC4 := Lib.hid (show (w3.setCell ⟨P, 0, none⟩ (.slice B4 (nv + 1) d4)).heap[w.heap.size]? = some (.cells #[.int .i64 W, .int .i64 B] 34 (0, 0)) from (set_far w3 (p := ⟨P, 0, none⟩) (by show w.heap.size ≠ P; omega) _).trans HC3.out)
    have HBA4 := Lib.hid (HBA3.out.lk (w' := w3.setCell ⟨P, 0, none⟩ (.slice B4 (nv + 1) d4)) ((Lk.refl P _ w3).set _) (Loc.refl _ _))
    have HX4 := Lib.hid (show (L ++ [beg]) ++ kidsC ts W B (n - k0) beg = L ++ beg :: kidsC ts W B r beg by rw [HKR.out, List.append_assoc]; rfl)
    clear hc3 hf3 hPw
    have hk0n : k0 ≤ n := by have := HK.out; omega
    go_wp2
    go_loopw [10, 11] (fun i _ wr => ∃ j : Nat, k0 ≤ j ∧ j ≤ n ∧ i = .int .i64 j ∧ ∃ v vs X, X ++ kidsC ts W B (n - j) beg = L ++ beg :: kidsC ts W B r beg ∧ Rws wr b0 v X vs ∧ wr.heap[P]? = some (.cells #[v] 66 (0, 0)) ∧ Lk P (Value.slice B3 nv d3).ownBlock w wr ∧ Loc w (Value.slice B3 nv d3).ownBlock v.ownBlock ∧ BegAt wr P b0 v.ownBlock A2 beg ∧ wr.heap[w.heap.size]? = some (.cells #[.int .i64 W, .int .i64 B] 34 (0, 0)) ∧ v.ownBlock ≠ some P ∧ v.ownBlock ≠ some w.heap.size) (fun i _ _ => n - (intOf i).toNat)
    case atStart => exact ⟨k0, Nat.le_refl _, hk0n, rfl, _, _, _, HX4.out, HR4.out, HP4.out, HLK4.out, HLO3.out, HBA4.out, HC4.out, HOF3.out.1, HOF3.out.2⟩
    case round =>
      obtain ⟨j, hkj, hj, rfl, v, us, X, hX, hr, hp, hlk, hlo, hba, hcs, hf1, hf2⟩ := hrel
      have hsz := hlk.size
      have HLK := Lib.hid hlk
      have HLO := Lib.hid hlo
      have HBA := Lib.hid hba
      have HRW := Lib.hid hr
      have HPP := Lib.hid hp
      have HCS := Lib.hid hcs
      have HX := Lib.hid hX
      have HF1 := Lib.hid hf1
      have HF2 := Lib.hid hf2
      have HBB := Lib.hid (show Below b0 w wr from hlk.toBelow hb0 hbP fun g e => (HOB.out g e).1)
      have HOV := Lib.hid (show ∀ g, v.ownBlock = some g → g < wr.heap.size from fun g e => (hr.1.lt g e).2)
      clear hlk hlo hba hr hp hcs hX hf1 hf2
      by_cases hlt : j < n
      · have HSN := Lib.hid (HBEG.out.snoc (j := j) hkj (by rw [HN.out]; exact hlt))
        have HLN := Lib.hid (show (beg ++ [(j : Int)]).length = m + 1 by rw [List.length_append, HM.out]; rfl)
        have HSG := Lib.hid HBA.out.seg
        have hwsz : w.heap.size < wr.heap.size := heap_lt HCS.out
        cases hfit : fitI ts W B (beg ++ [(j : Int)])
        all_goals
          have HFIT := Lib.hid hfit
          clear hfit
          go_wp2_with fail
          refine (l1Own_any A2 m c2 beg _ _ _ HM.out (by omega) HSG.out (Nat.le_refl _)).mono ?_
          rintro e w5 ⟨A5, c5, rfl, hown5, hb5⟩
          have hz5 := hb5.size
          have HOW5 := Lib.hid (hown5.alloc (.cells #[.int .i64 (j : Int)] 3))
          have HS5 := Lib.hid (seg_one w5 (j : Int) 3)
          have HLT5 := Lib.hid hown5.lt
          have HB5 := Lib.hid hb5
          clear hown5 hb5
          go_wp2_with (at_builtin; refine wpList_append_seg _ rfl _ _ 31 rfl wr.heap.size 3 i0 Try.underlying31 hi0 hz0 hz1 hz2 _ m _ rfl HOW5.out _ 1 1 [(j : Int)] _ _ rfl rfl HS5.out (by omega) (by simp; omega) ?_; intro v6 w6 hown6 hgr6; obtain ⟨A6, c6, rfl⟩ := ownsRow_form hown6; have HA6 := Lib.hid (ownsRow_own (ys := beg ++ [(j : Int)]) (by rw [HLN.out, List.map_append]; exact hown6)).2; have hb6 : Below wr.heap.size wr w6 := (HB5.out.alloc hz5 _).grown hgr6 (by simp; omega) (fun g' hg' => (HLT5.out g' hg').1); have hz6 := hb6.size; have hcc := (hb6.block _ hwsz).trans HCS.out; have k0c := cell_of hcc 0; have k1c := cell_of hcc 1; have HCC := Lib.hid hcc; have HB6 := Lib.hid hb6; clear hown6 hgr6 hb6 hcc)
          refine (suFits_any A A6 n c (m + 1) c6 W B ts (beg ++ [(j : Int)]) lo hi _ _ w6 HN.out HG.out HLN.out HSN.out.inc ((hs0.below HBB.out hib).below HB6.out (by omega)) (by omega) HA6.out.seg (Nat.le_refl _) _ HFIT.out).mono ?_
          rintro e w7 ⟨rfl, hb7⟩
          have hz7 := hb7.size
          have HB7 := Lib.hid (HB6.out.trans (hb7.mono hz6))
          have hcc := (hb7.block _ (by omega)).trans HCC.out
          clear k0c k1c
          have k0c := cell_of hcc 0
          have k1c := cell_of hcc 1
          have HCC7 := Lib.hid hcc
          have HBA7 := Lib.hid (HBA.out.below HB7.out)
          have HR7 := Lib.hid (HRW.out.below HB7.out)
          have HP7 := Lib.hid ((HB7.out.block P (heap_lt HPP.out)).trans HPP.out)
          have HLK7 := Lib.hid (HLK.out.below HB7.out)
          have HA7 := Lib.hid (HA6.out.below hb7 (Nat.le_refl _))
          clear hb7 hcc
        · have HNX := Lib.hid (show X ++ kidsC ts W B (n - (j + 1)) beg = L ++ beg :: kidsC ts W B r beg by rw [← kidsC_no HN.out hlt HFIT.out]; exact HX.out)
          clear k0c k1c
          go_wp2
          go_roundw
          case rel => exact ⟨j + 1, by omega, by omega, by go_num, v, us, X, HNX.out, HR7.out, HP7.out, HLK7.out, HLO.out, HBA7.out, HCC7.out, HF1.out, HF2.out⟩
          case measure => simp [intOf]; omega
        · have HNX := Lib.hid (show (X ++ (beg ++ [(j : Int)]) :: kidsC ts W B (n - (j + 1)) (beg ++ [(j : Int)])) ++ kidsC ts W B (n - (j + 1)) beg = L ++ beg :: kidsC ts W B r beg by rw [← HX.out, kidsC_yes HN.out hlt HFIT.out]; simp)
          have HLE := Lib.hid (show X.length + (kidsC ts W B (n - (j + 1)) (beg ++ [(j : Int)])).length + 1 ≤ 4096 by
            have e := congrArg List.length HNX.out
            have e2 := HTL.out
            simp only [List.length_append, List.length_cons] at e e2
            omega)
          have HBG7 := Lib.hid (BegAt.of_own (P := P) (b0 := b0) (ob := v.ownBlock) (HA7.out.more (Nat.le_refl _) hz7) (by omega) (heap_lt HPP.out) HOV.out)
          go_wp2_with fail
          refine (IH.out (n - (j + 1)) (by have := HK.out; omega) (j + 1) _ (beg ++ [(j : Int)]) (m + 1) c6 A6 X v us w7 (by push_cast; rfl) (by omega) HSN.out HLN.out HBG7.out HR7.out HP7.out HF1.out HLE.out ((hs0.below HBB.out hib).below HB7.out (by omega)) (by omega)).mono ?_
          rintro e w8 ⟨rfl, v8, vs8, hr8, hp8, hlk8, hlo8⟩
          have hz8 := hlk8.size
          have HBA8 := Lib.hid (HBA7.out.lk hlk8 hlo8)
          have HCC8 := Lib.hid ((hlk8.block _ (heap_lt HCC7.out) (fun hs => by rcases hs with e | e; omega; exact HF2.out e)).trans HCC7.out)
          have HLK8 := Lib.hid (HLK7.out.trans HLO.out hlk8)
          have HLO8 := Lib.hid (HLO.out.trans hlo8 (by omega))
          have HF8 := Lib.hid (show v8.ownBlock ≠ some P ∧ v8.ownBlock ≠ some w.heap.size from by
            have hPw := heap_lt HPP.out
            rcases hlo8 with e | ⟨g, e, hg⟩
            · rw [e]; exact ⟨HF1.out, HF2.out⟩
            · rw [e]; exact ⟨fun e' => by injection e' with e'; omega, fun e' => by injection e' with e'; omega⟩)
          have HR8 := Lib.hid hr8
          have HP8 := Lib.hid hp8
          clear hr8 hp8 hlk8 hlo8 k0c k1c
          go_wp2
          go_roundw
          case rel => exact ⟨j + 1, by omega, by omega, by go_num, v8, vs8, _, HNX.out, HR8.out, HP8.out, HLK8.out, HLO8.out, HBA8.out, HCC8.out, HF8.out.1, HF8.out.2⟩
          case measure => simp [intOf]; omega
      · obtain rfl : j = n := by omega
        have HE := Lib.hid (show X = L ++ beg :: kidsC ts W B r beg by rw [← HX.out, Nat.sub_self]; simp [kidsC])
        go_wp2
        go_end0
        exact ⟨rfl, v, us, by rw [← HE.out]; exact HRW.out, HPP.out, HLK.out, HLO.out⟩
end Go.Proofs.Ytmgloknghoeheaa

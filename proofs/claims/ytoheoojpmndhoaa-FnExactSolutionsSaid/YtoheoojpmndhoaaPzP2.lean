/-
  The given program's list of all solutions.
  Conditions: each part's own.
-/
import Derived.Test.YtoheoojpmndhoaaL1Own
import Derived.Test.YtoheoojpmndhoaaRws
import Derived.Test.YtoheoojpmndhoaaItF
namespace Go.Proofs.Ytoheoojpmndhoaa
set_option linter.unusedVariables false
open Go.RowKit

theorem rowsT_info : (Try.prog.info? 39).map (fun i => (i.zero, i.size, i.bytes)) = some (some (.slice none 0 0), 1, 24) := by kernel_rfl

theorem rws_one {w : World} {base m c : Nat} {B : Option Addr} {xs : List Int} (hb : base ≤ w.heap.size) (hm : xs.length = m) (h : Own w base w.heap.size B xs) :
    Rws (w.alloc (.cells #[.slice B m c] 39)) base (.slice (some ⟨w.heap.size, 0, none⟩) 1 1) [xs] [.slice B m c] := by
  have hbb := (Below.refl w.heap.size w).alloc (Nat.le_refl _) (.cells #[.slice B m c] 39)
  refine ⟨⟨rfl, .inr ⟨w.heap.size, 1, _, rfl, hb, new_at w _ rfl, Nat.le_refl _, by unfold maxLen; omega, rfl, rfl⟩⟩, rfl, fun j ys hj => ?_⟩
  have hj0 : j = 0 := by
    have := (List.getElem?_eq_some_iff.1 hj).1
    simp at this
    exact this
  subst hj0
  obtain rfl : xs = ys := by simpa using hj
  refine ⟨B, c, by rw [hm]; rfl, (h.below hbb (Nat.le_refl _)).more (Nat.le_refl _) (by simp), fun hx g hB e => ?_⟩
  have h1 := (h.lt_ hx hB).2
  injection e with e
  have h2 : w.heap.size = g := e
  omega

/-- Of what was there, only the cell at 'P' and the block 'ob' may have turned. -/
def Lk (P : Nat) (ob : Option Nat) (w w' : World) : Prop := Only (fun b => b = P ∨ ob = some b) w w'
/-- The row lies where it lay, or in new memory. -/
def Loc (w : World) (ob ob' : Option Nat) : Prop := ob' = ob ∨ ∃ g, ob' = some g ∧ w.heap.size ≤ g
theorem Loc.refl (w : World) (ob : Option Nat) : Loc w ob ob := .inl rfl
theorem Loc.trans {w w' : World} {a b c : Option Nat} (h : Loc w a b) (k : Loc w' b c) (hs : w.heap.size ≤ w'.heap.size) : Loc w a c := by
  rcases k with rfl | ⟨g, e, hg⟩
  · exact h
  · exact .inr ⟨g, e, by omega⟩
theorem Lk.refl (P : Nat) (ob : Option Nat) (w : World) : Lk P ob w w := Only.refl _ _
theorem Lk.trans {P : Nat} {w w' w2 : World} {a b : Option Nat} (h : Lk P a w w') (hl : Loc w a b) (k : Lk P b w' w2) : Lk P a w w2 := by
  refine ⟨k.os.trans h.os, k.tape.trans h.tape, k.output.trans h.output, Nat.le_trans h.size k.size, fun i hi hs => ?_⟩
  have hi' : i < w'.heap.size := Nat.lt_of_lt_of_le hi h.size
  refine (k.block i hi' fun hs' => ?_).trans (h.block i hi hs)
  rcases hs' with e | e
  · exact hs (.inl e)
  · rcases hl with e' | ⟨g, e', hg⟩
    · exact hs (.inr (e' ▸ e))
    · rw [e'] at e
      injection e with e
      omega
theorem Lk.below {P : Nat} {w w' w2 : World} {a : Option Nat} (h : Lk P a w w') (k : Below w'.heap.size w' w2) : Lk P a w w2 := Only.trans h (Only.of_below k (Nat.le_refl _))
theorem Lk.toBelow {P b0 : Nat} {w w' : World} {a : Option Nat} (h : Lk P a w w') (h0 : b0 ≤ w.heap.size) (hP : b0 ≤ P) (ha : ∀ g, a = some g → b0 ≤ g) : Below b0 w w' :=
  Only.below h h0 fun k hk => by
    rcases hk with e | e
    · omega
    · exact ha k e
theorem Lk.set {P : Nat} {w w' : World} {a : Option Nat} (h : Lk P a w w') (u : Value) : Lk P a w (w'.setCell ⟨P, 0, none⟩ u) := Only.setCell h (p := ⟨P, 0, none⟩) (.inl rfl) u

/-- A list in a block of its own, which is neither 'P' nor 'ob'. -/
def BegAt (w : World) (P b0 : Nat) (ob : Option Nat) (A : Option Addr) (xs : List Int) : Prop :=
  xs = [] ∨ ∃ g, A = some ⟨g, 0, none⟩ ∧ b0 ≤ g ∧ g ≠ P ∧ ob ≠ some g ∧ g < w.heap.size ∧ Own w g (g + 1) A xs
theorem BegAt.nil_ (w : World) (P b0 : Nat) (ob : Option Nat) (A : Option Addr) : BegAt w P b0 ob A [] := .inl rfl
theorem BegAt.of_own {w : World} {P b0 lo : Nat} {ob : Option Nat} {A : Option Addr} {xs : List Int} (h : Own w lo w.heap.size A xs) (h0 : b0 ≤ lo) (hP : P < lo) (ho : ∀ g, ob = some g → g < lo) : BegAt w P b0 ob A xs := by
  rcases id h with h | ⟨b, cs, T, e, h1, h2, hb, hc⟩
  · exact .inl h
  · exact .inr ⟨b, e, by omega, by omega, fun e' => by have := ho b e'; omega, h2, .inr ⟨b, cs, T, e, Nat.le_refl _, Nat.lt_succ_self _, hb, hc⟩⟩
theorem BegAt.seg {w : World} {P b0 : Nat} {ob : Option Nat} {A : Option Addr} {xs : List Int} (h : BegAt w P b0 ob A xs) : Seg w 0 w.heap.size A xs := by
  rcases h with h | ⟨g, e, _, _, _, hg, ho⟩
  · exact .inl h
  · exact ho.seg.more (Nat.zero_le _) hg
theorem BegAt.own {w : World} {P b0 : Nat} {ob : Option Nat} {A : Option Addr} {xs : List Int} (h : BegAt w P b0 ob A xs) : Own w b0 w.heap.size A xs := by
  rcases h with h | ⟨g, e, h0, _, _, hg, ho⟩
  · exact .inl h
  · exact ho.more h0 hg
theorem BegAt.lk {w w' : World} {P b0 : Nat} {ob ob' : Option Nat} {A : Option Addr} {xs : List Int} (h : BegAt w P b0 ob A xs) (k : Lk P ob w w') (hl : Loc w ob ob') : BegAt w' P b0 ob' A xs := by
  rcases h with h | ⟨g, e, h0, h1, h2, hg, ho⟩
  · exact .inl h
  · refine .inr ⟨g, e, h0, h1, fun e' => ?_, Nat.lt_of_lt_of_le hg k.size, ho.keep fun b hb1 hb2 => k.block b (by omega) fun hs => ?_⟩
    · rcases hl with hl | ⟨g', e2, hg'⟩
      · exact h2 (hl ▸ e')
      · rw [e2] at e'
        injection e' with e'
        omega
    · obtain rfl : b = g := by omega
      exact hs.elim h1 h2
theorem BegAt.below {w w' : World} {P b0 : Nat} {ob : Option Nat} {A : Option Addr} {xs : List Int} (h : BegAt w P b0 ob A xs) (k : Below w.heap.size w w') : BegAt w' P b0 ob A xs :=
  h.lk (Only.of_below k (Nat.le_refl _)) (.inl rfl)
theorem rows_beg {w : World} {P b0 m c : Nat} {ob : Option Nat} {A : Option Addr} {xs : List Int} (h : BegAt w P b0 ob A xs) (hm : xs.length = m) : Rows1 w b0 ob [xs] [.slice A m c] := by
  refine ⟨rfl, fun j ys hj => ?_⟩
  have hj0 : j = 0 := by
    have := (List.getElem?_eq_some_iff.1 hj).1
    simp at this
    exact this
  subst hj0
  obtain rfl : xs = ys := by simpa using hj
  refine ⟨A, c, by rw [hm]; rfl, h.own, fun hx g hA e => ?_⟩
  rcases h with h | ⟨g', e', h0, h1, h2, hg, ho⟩
  · exact hx h
  · rw [e'] at hA
    injection hA with hA
    injection hA with hA
    subst hA
    exact h2 e

theorem Lk.grown {P : Nat} {w w' w2 : World} {a : Option Nat} (h : Lk P a w w') (hl : ∀ g, a = some g → g < w.heap.size) (k : w'.grownBy w2 a) : Lk P a w w2 :=
  Only.trans h ⟨k.os, k.tape, k.output, k.size, fun i hi hs => k.block i hi fun e => hs (.inr e.symm)⟩
/-- The cell at 'P' is written. -/
theorem Rws.setP {w : World} {P b0 T : Nat} {v u : Value} {B : Option Addr} {n c : Nat} {L : List (List Int)} {vs : List Value} (h : Rws w b0 v L vs) (hP : w.heap[P]? = some (.cells #[.slice B n c] T (0, 0))) (hf : v.ownBlock ≠ some P) : Rws (w.setCell ⟨P, 0, none⟩ u) b0 v L vs := by
  have hg := grown_set (World.grownBy.refl w (some P)) (p := ⟨P, 0, none⟩) rfl u
  refine ⟨h.1.kept hg (.inr fun e => hf e), h.2.1, fun j xs hj => ?_⟩
  obtain ⟨B', c', e, ho, ho2⟩ := h.2.2 j xs hj
  refine ⟨B', c', e, (ho.grownFar hg (Nat.le_refl _) fun hx g hB e' => ?_).more (Nat.le_refl _) hg.size, ho2⟩
  injection e' with e'
  subst e'
  rcases ho with ho | ⟨b, cs, T', e1, _, _, hb, hc⟩
  · exact hx ho
  · rw [hB] at e1
    injection e1 with e1
    injection e1 with e1
    subst e1
    rw [hP] at hb
    injection hb with hb
    injection hb with hb _
    subst hb
    have := hc 0 (List.length_pos_iff.2 hx)
    simp at this

/-- All choices that go on from one have come behind those that were there. -/
def RetLook (P b0 : Nat) (ob : Option Nat) (L : List (List Int)) (w : World) (e : Ending) (w' : World) : Prop :=
  e = .returned (.tuple #[]) ∧ ∃ v vs, Rws w' b0 v L vs ∧ w'.heap[P]? = some (.cells #[v] 45 (0, 0)) ∧ Lk P ob w w' ∧ Loc w ob v.ownBlock

end Go.Proofs.Ytoheoojpmndhoaa

namespace Go.Proofs.Ytoheoojpmndhoaa
set_option linter.unusedVariables false
set_option linter.unusedSimpArgs false
open Go.RowKit

theorem onT_length (b : List Int) (m : Nat) : (onT b m).length = 6 ^ m := by rw [onT, List.length_map, allT_length]
theorem upT_length (b : List Int) (m k : Nat) : (upT b m k).length = k * 6 ^ m := by
  induction k with
  | zero => simp [upT]
  | succ k ih => rw [upT, List.length_append, ih, onT_length, Nat.succ_mul]

set_option maxRecDepth 100000 in
set_option maxHeartbeats 2000000 in
theorem pzLook_none (P b0 : Nat) (A : Option Addr) (n c : Nat) (cs : List Clu) (N : Nat) (lo hi : Nat) (hN : N = 2 ∨ N = 3 ∨ N = 4) (hn : cs.length = n) (hlen : n ≤ 1048576) (hcl : ∀ c ∈ cs, clueB (N : Int) c = true) (hib : hi ≤ b0) (hbP : b0 ≤ P)
    (beg : List Int) (c2 : Nat) (A2 : Option Addr) (L : List (List Int)) (v : Value) (vs : List Value) (w : World) (hm : beg.length = N) (hbx : ∀ x ∈ beg, 1 ≤ x ∧ x ≤ 6) (hba : BegAt w P b0 v.ownBlock A2 beg) (hrw : Rws w b0 v L vs) (hP : w.heap[P]? = some (.cells #[v] 45 (0, 0))) (hfar : v.ownBlock ≠ some P)
    (hL : L.length + 1 ≤ 4096) (hs : Seg w lo hi A (flat4 cs)) (hb0 : b0 ≤ w.heap.size) :
    Calls Try.prog 101 #[.int .i64 0, .slice A n c, .slice A2 N c2, .pointer (some ⟨P, 0, none⟩)] w (RetLook P b0 v.ownBlock (L ++ [beg].filter (fitB toldV cs)) w) := by
  obtain ⟨j0, hj0, hy0, hy1, hy2⟩ := info_parts rowsT_info
  have hPlt := heap_lt hP
  have hh : hidB beg = true := hid_of (n := N) (by omega) (by omega) ⟨hm, hbx⟩
  have HN := Lib.hid hn
  have HM := Lib.hid hm
  have HH := Lib.hid hh
  have HCL := Lib.hid hcl
  have HRW := Lib.hid hrw
  have HBA := Lib.hid hba
  have HPW := Lib.hid hP
  have HOB := Lib.hid (show ∀ g, v.ownBlock = some g → b0 ≤ g ∧ g < w.heap.size from fun g e => hrw.1.lt g e)
  have HFAR := Lib.hid hfar
  clear hn hm hh hcl hrw hba hP hbx hfar
  go_enter Try.func101, Try.ntmps101
  go_wp2
  go_loopw [10, 29] (fun _ i wr => ∃ k : Nat, k ≤ n ∧ i = .int .i64 k ∧ Below w.heap.size w wr ∧ ∀ j c, j < k → cs[j]? = some c → decide (toldV c beg = c.2.2.2) = true) (fun _ i _ => n - (intOf i).toNat)
  case atStart => exact ⟨0, Nat.zero_le _, rfl, Below.refl _ _, fun j u hj => by omega⟩
  case round =>
    obtain ⟨k, hk, rfl, hbx, hall⟩ := hrel
    have HA := Lib.hid hall
    clear hall
    have hzx := hbx.size
    by_cases hlt : k < n
    · obtain ⟨b, off, x, y, z, u, rfl, _, hbB, hx, hc0, hc1, hc2, hc3⟩ := (hs.below hbx (by omega)).quad (k := k) (by rw [HN.out]; exact hlt)
      have HX := Lib.hid hx
      clear hx
      have hbr : b < wr.heap.size := by omega
      go_wp2_with fail
      obtain ⟨v1, hv1⟩ : ∃ v, wr.alloc (.cells #[.int .i64 x, .int .i64 y, .int .i64 z, .int .i64 u] 25) = v := ⟨_, rfl⟩
      have hb1 : Below wr.heap.size wr v1 := by rw [← hv1]; exact (Below.refl _ _).alloc (Nat.le_refl _) _
      rw [hv1]
      clear hv1
      have hz1 := hb1.size
      have hbx1 := hbx.trans (hb1.mono hbx.size)
      have hvo : ValOk (N : Int) x y z := ValOk.of_clue (c := (x, y, z, u)) (HCL.out _ (List.mem_of_getElem? HX.out))
      obtain ⟨q, hq⟩ : ∃ q, decide (toldK x y z beg = u) = q := ⟨_, rfl⟩
      have HQ := Lib.hid hq
      refine (pzFits_any A2 N c2 x y z u beg 0 w.heap.size _ HM.out HH.out hvo (HBA.out.seg.below hbx1 (Nat.le_refl _)) (by omega) q hq).mono ?_
      rintro e w2 ⟨rfl, hb2⟩
      clear hq
      have hbx2 := hbx1.trans (hb2.mono hbx1.size)
      cases q
      · go_wp2
        refine bodyPost_ret (results_none rfl _ _ _) rfl ?_
        have hfb : fitB toldV cs beg = false := fitB_not HX.out HQ.out
        have hf : [beg].filter (fitB toldV cs) = [] := by simp [hfb]
        rw [hf, List.append_nil]
        exact ⟨rfl, v, vs, HRW.out.below hbx2, (hbx2.block P hPlt).trans HPW.out, (Lk.refl P _ w).below hbx2, Loc.refl _ _⟩
      · go_wp2
        go_roundw
        case rel =>
          refine ⟨k + 1, by omega, by go_num, hbx2, fun j v hj hv => ?_⟩
          by_cases e : j = k
          · subst e; rw [HX.out] at hv; injection hv with hv; subst hv; exact HQ.out
          · exact HA.out j v (by omega) hv
        case measure => simp [intOf]; omega
    · obtain rfl : k = n := by omega
      have hf : [beg].filter (fitB toldV cs) = [beg] := by
        have hfb : fitB toldV cs beg = true := fitB_of fun j c hj => HA.out j c (by rw [← HN.out]; exact (List.getElem?_eq_some_iff.1 hj).1) hj
        simp [hfb]
      have HF := Lib.hid hf
      have HRW1 := Lib.hid (HRW.out.below hbx)
      have HBA1 := Lib.hid (HBA.out.below hbx)
      have HP1 := Lib.hid ((hbx.block P hPlt).trans HPW.out)
      have hPc : wr.cell? ⟨P, 0, none⟩ = some v := cell_of HP1.out 0
      have hPf : wr.frozen? ⟨P, 0, none⟩ = false := frozen_of HP1.out 0
      have HBX := Lib.hid hbx
      obtain ⟨B3, d3, hform⟩ := HRW.out.form
      subst hform
      obtain ⟨nv, hnv⟩ : ∃ nv, L.length = nv := ⟨_, rfl⟩
      rw [hnv] at HRW1 HOB HFAR hL hPc HP1 HBA1 ⊢
      have HNV := Lib.hid hnv
      have HONE := Lib.hid (show Rws (wr.alloc (.cells #[.slice A2 N c2] 39)) b0 (.slice (some ⟨wr.heap.size, 0, none⟩) 1 1) [beg] [.slice A2 N c2] from rws_one (c := c2) (by omega) HM.out HBA1.out.own)
      have hbx2 := (Below.refl wr.heap.size wr).alloc (Nat.le_refl _) (.cells #[.slice A2 N c2] 39)
      have HRW2 := Lib.hid (HRW1.out.below hbx2)
      have HBA2 := Lib.hid (HBA1.out.below hbx2)
      have HBX2 := Lib.hid hbx2
      have hnv2 : nv + 1 ≤ 4194304 := by omega
      have hPr : P < wr.heap.size := by omega
      clear hbx hnv hbx2 hf
      go_wp2_with (at_builtin; refine wpList_append_rows _ rfl _ _ 45 rfl b0 39 j0 Try.underlying45 hj0 hy0 hy1 hy2 _ nv vs rfl (by have h := HRW2.out.1; rw [HNV.out] at h; exact h) _ _ 1 [.slice A2 N c2] rfl HONE.out.1 HONE.out.2.one hnv2 (by have := HBX2.out.size; omega) ?_; intro v3 w3 hown3 hgr3 hloc3; obtain ⟨B4, d4, rfl⟩ := ownsRow_form hown3; have hP3 : w3.heap[P]? = some (.cells #[.slice B3 nv d3] 45 (0, 0)) := (hgr3.block P (by simp; omega) (fun e => HFAR.out e.symm)).trans ((HBX2.out.block P (by omega)).trans HP1.out); have hc3 := cell_of hP3 0; have hf3 := frozen_of hP3 0; have HP3 := Lib.hid hP3; have HO3 := Lib.hid hown3; have HG3 := Lib.hid hgr3; have HL3 := Lib.hid hloc3; clear hP3 hown3 hgr3 hloc3)
      have HLK3 := Lib.hid (show Lk P (Value.slice B3 nv d3).ownBlock w w3 from (((Lk.refl P _ w).below HBX.out).below HBX2.out).grown (fun g e => (HOB.out g e).2) HG3.out)
      have HR3 := Lib.hid (HRW2.out.app (rows_beg HBA2.out HM.out) (by rw [HNV.out]; exact HO3.out) HG3.out HL3.out)
      have HLO3 := Lib.hid (show Loc w (Value.slice B3 nv d3).ownBlock (Value.slice B4 (nv + 1) d4).ownBlock from HL3.out.imp id fun e => ⟨_, e, by simp; omega⟩)
      have HOF3 := Lib.hid (show (Value.slice B4 (nv + 1) d4).ownBlock ≠ some P from by
        rcases HL3.out with e | e
        · rw [e]; exact HFAR.out
        · rw [e]
          intro e'
          injection e' with e'
          simp at e'
          omega)
      go_end0
      rw [HF.out, HNV.out]
      exact ⟨rfl, .slice B4 (nv + 1) d4, _, HR3.out.setP (u := .slice B4 (nv + 1) d4) HP3.out HOF3.out, (set_self HP3.out 0 _).trans rfl, HLK3.out.set (.slice B4 (nv + 1) d4), HLO3.out⟩
end Go.Proofs.Ytoheoojpmndhoaa

namespace Go.Proofs.Ytoheoojpmndhoaa
set_option linter.unusedVariables false
set_option linter.unusedSimpArgs false
open Go.RowKit

set_option maxRecDepth 100000 in
set_option maxHeartbeats 2000000 in
theorem pzLook_any (P b0 : Nat) (A : Option Addr) (n c : Nat) (cs : List Clu) (N : Nat) (lo hi : Nat) (hN : N = 2 ∨ N = 3 ∨ N = 4) (hn : cs.length = n) (hlen : n ≤ 1048576) (hcl : ∀ c ∈ cs, clueB (N : Int) c = true) (hib : hi ≤ b0) (hbP : b0 ≤ P) (r : Nat) :
    ∀ (beg : List Int) (m c2 : Nat) (A2 : Option Addr) (L : List (List Int)) (v : Value) (vs : List Value) (w : World), beg.length = m → m + r = N → (∀ x ∈ beg, 1 ≤ x ∧ x ≤ 6) → BegAt w P b0 v.ownBlock A2 beg → Rws w b0 v L vs → w.heap[P]? = some (.cells #[v] 45 (0, 0)) → v.ownBlock ≠ some P →
      L.length + 6 ^ r ≤ 4096 → Seg w lo hi A (flat4 cs) → b0 ≤ w.heap.size →
      Calls Try.prog 101 #[.int .i64 (r : Int), .slice A n c, .slice A2 m c2, .pointer (some ⟨P, 0, none⟩)] w (RetLook P b0 v.ownBlock (L ++ (onT beg r).filter (fitB toldV cs)) w) := by
  induction r with
  | zero =>
    intro beg m c2 A2 L v vs w hm hmr hbx hba hrw hP hfar hL hs hb0
    obtain rfl : m = N := by omega
    rw [onT_zero]
    exact pzLook_none P b0 A n c cs m lo hi hN hn hlen hcl hib hbP beg c2 A2 L v vs w hm hbx hba hrw hP hfar (by simpa using hL) hs hb0
  | succ r ih =>
    intro beg m c2 A2 L v vs w hm hmr hbx hba hrw hP hfar hL hs hb0
    obtain ⟨i0, hi0, hz0, hz1, hz2⟩ := info_parts int_info
    have hPlt := heap_lt hP
    have IH := Lib.hid ih
    have HM := Lib.hid hm
    have HBXX := Lib.hid hbx
    have HOB := Lib.hid (show ∀ g, v.ownBlock = some g → b0 ≤ g ∧ g < w.heap.size from fun g e => hrw.1.lt g e)
    have HRW0 := Lib.hid hrw
    have HBA0 := Lib.hid hba
    have HP0 := Lib.hid hP
    have HF0 := Lib.hid hfar
    obtain ⟨p, hp6⟩ : ∃ p, 6 ^ r = p := ⟨_, rfl⟩
    have hL6 : L.length + 6 * p ≤ 4096 := by rw [Nat.pow_succ, hp6] at hL; omega
    have HP6 := Lib.hid hp6
    have hr4 : r ≤ 4 := by omega
    have hs0 := hs
    obtain ⟨R, hR⟩ : ∃ R : Int, ((r + 1 : Nat) : Int) = R := ⟨_, rfl⟩
    rw [hR]
    have hR1 : R - 1 = (r : Int) := by omega
    have hR2 : 1 ≤ R ∧ R ≤ 5 := by omega
    have hR3 : decide (R > 0) = true := by simp; omega
    have hR4 : decide (0 < R) = true := by simp; omega
    clear ih hm hbx hrw hba hP hfar hL hp6 hs hR
    go_enter Try.func101, Try.ntmps101
    go_wp2
    go_loopw [8] (fun i wr => ∃ k : Nat, k ≤ 6 ∧ i = .int .i64 ((k : Int) + 1) ∧ ∃ v' vs', Rws wr b0 v' (L ++ (upT beg r k).filter (fitB toldV cs)) vs' ∧ wr.heap[P]? = some (.cells #[v'] 45 (0, 0)) ∧ Lk P v.ownBlock w wr ∧ Loc w v.ownBlock v'.ownBlock ∧ BegAt wr P b0 v'.ownBlock A2 beg ∧ v'.ownBlock ≠ some P) (fun i _ => 7 - (intOf i).toNat)
    case atStart => exact ⟨0, by omega, rfl, v, vs, by simpa [upT] using HRW0.out, HP0.out, Lk.refl _ _ _, Loc.refl _ _, HBA0.out, HF0.out⟩
    case round =>
      obtain ⟨k, hk, rfl, v', us, hr, hp, hlk, hlo, hba, hf1⟩ := hrel
      have hsz := hlk.size
      have HLK := Lib.hid hlk
      have HLO := Lib.hid hlo
      have HBA := Lib.hid hba
      have HRW := Lib.hid hr
      have HPP := Lib.hid hp
      have HF1 := Lib.hid hf1
      have HBB := Lib.hid (show Below b0 w wr from hlk.toBelow hb0 hbP fun g e => (HOB.out g e).1)
      have HOV := Lib.hid (show ∀ g, v'.ownBlock = some g → g < wr.heap.size from fun g e => (hr.1.lt g e).2)
      clear hlk hlo hba hr hp hf1
      by_cases hlt : k < 6
      · have HLN := Lib.hid (show (beg ++ [(k : Int) + 1]).length = m + 1 by rw [List.length_append, HM.out]; rfl)
        have HSG := Lib.hid HBA.out.seg
        go_wp2_with fail
        refine (l1Own_any A2 m c2 beg _ _ _ HM.out (by omega) HSG.out (Nat.le_refl _)).mono ?_
        rintro e w5 ⟨A5, c5, rfl, hown5, hb5⟩
        have hz5 := hb5.size
        have HOW5 := Lib.hid (hown5.alloc (.cells #[.int .i64 ((k : Int) + 1)] 3))
        have HS5 := Lib.hid (seg_one w5 ((k : Int) + 1) 3)
        have HLT5 := Lib.hid hown5.lt
        have HB5 := Lib.hid hb5
        clear hown5 hb5
        go_wp2_with (at_builtin; refine wpList_append_seg _ rfl _ _ 39 rfl wr.heap.size 3 i0 Try.underlying39 hi0 hz0 hz1 hz2 _ m _ rfl HOW5.out _ 1 1 [(k : Int) + 1] _ _ rfl rfl HS5.out (by omega) (by simp; omega) ?_; intro v6 w6 hown6 hgr6; obtain ⟨A6, c6, rfl⟩ := ownsRow_form hown6; have HA6 := Lib.hid (ownsRow_own (ys := beg ++ [(k : Int) + 1]) (by rw [HLN.out, List.map_append]; exact hown6)).2; have hb6 : Below wr.heap.size wr w6 := (HB5.out.alloc hz5 _).grown hgr6 (by simp; omega) (fun g' hg' => (HLT5.out g' hg').1); have hz6 := hb6.size; have HB6 := Lib.hid hb6; clear hown6 hgr6 hb6)
        have HBA6 := Lib.hid (HBA.out.below HB6.out)
        have HR6 := Lib.hid (HRW.out.below HB6.out)
        have HP6' := Lib.hid ((HB6.out.block P (heap_lt HPP.out)).trans HPP.out)
        have HLK6 := Lib.hid (HLK.out.below HB6.out)
        have HBG6 := Lib.hid (BegAt.of_own (P := P) (b0 := b0) (ob := v'.ownBlock) HA6.out (by omega) (heap_lt HPP.out) HOV.out)
        have HLE := Lib.hid (show (L ++ (upT beg r k).filter (fitB toldV cs)).length + 6 ^ r ≤ 4096 by
          have h1 := List.length_filter_le (fitB toldV cs) (upT beg r k)
          rw [upT_length, HP6.out] at h1
          have h2 : (k + 1) * p ≤ 6 * p := Nat.mul_le_mul_right _ (by omega)
          rw [Nat.succ_mul] at h2
          rw [List.length_append, HP6.out]
          omega)
        have HXX := Lib.hid (show (L ++ (upT beg r k).filter (fitB toldV cs)) ++ (onT (beg ++ [(k : Int) + 1]) r).filter (fitB toldV cs) = L ++ (upT beg r (k + 1)).filter (fitB toldV cs) by rw [upT, List.filter_append, List.append_assoc])
        have hm6 : ∀ x ∈ beg ++ [(k : Int) + 1], 1 ≤ x ∧ x ≤ 6 := fun x hx => by
          rcases List.mem_append.1 hx with h | h
          · exact HBXX.out x h
          · simp at h; omega
        refine (IH.out (beg ++ [(k : Int) + 1]) (m + 1) c6 A6 _ v' us w6 HLN.out (by omega) hm6 HBG6.out HR6.out HP6'.out HF1.out HLE.out ((hs0.below HBB.out hib).below HB6.out (by omega)) (by omega)).mono ?_
        rintro e w8 ⟨rfl, v8, vs8, hr8, hp8, hlk8, hlo8⟩
        have hz8 := hlk8.size
        have HBA8 := Lib.hid (HBA6.out.lk hlk8 hlo8)
        have HLK8 := Lib.hid (HLK6.out.trans HLO.out hlk8)
        have HLO8 := Lib.hid (HLO.out.trans hlo8 (by omega))
        have HF8 := Lib.hid (show v8.ownBlock ≠ some P from by
          have hPw := heap_lt HPP.out
          rcases hlo8 with e | ⟨g, e, hg⟩
          · rw [e]; exact HF1.out
          · rw [e]; exact fun e' => by injection e' with e'; omega)
        rw [HXX.out] at hr8
        have HR8 := Lib.hid hr8
        have HP8 := Lib.hid hp8
        clear hr8 hp8 hlk8 hlo8 hm6
        go_wp2
        go_roundw
        case rel => exact ⟨k + 1, by omega, by go_num, v8, vs8, HR8.out, HP8.out, HLK8.out, HLO8.out, HBA8.out, HF8.out⟩
        case measure => simp [intOf]; omega
      · obtain rfl : k = 6 := by omega
        have hx : L ++ (onT beg (r + 1)).filter (fitB toldV cs) = L ++ (upT beg r 6).filter (fitB toldV cs) := by rw [upT_all]
        have HX := Lib.hid hx
        clear hx
        go_wp2
        refine bodyPost_ret (results_none rfl _ _ _) rfl ?_
        rw [HX.out]
        exact ⟨rfl, v', us, HRW.out, HPP.out, HLK.out, HLO.out⟩

/-- All solutions, as the given program has them: lists in new memory, in a new row. -/
theorem pzAll_any (A : Option Addr) (n c : Nat) (cs : List Clu) (N : Nat) (lo hi : Nat) (w : World) (hN : N = 2 ∨ N = 3 ∨ N = 4) (hn : cs.length = n) (hlen : n ≤ 1048576) (hcl : ∀ c ∈ cs, clueB (N : Int) c = true) (hs : Seg w lo hi A (flat4 cs)) (hB : hi ≤ w.heap.size) :
    Calls Try.prog 73 #[.int .i64 (N : Int), .slice A n c] w fun e w' => ∃ v vs, e = .returned v ∧ Rws w' w.heap.size v (solF toldV N cs) vs ∧ Below w.heap.size w w' := by
  go_enter Try.func73, Try.ntmps73
  go_wp2_with fail
  obtain ⟨V, hV⟩ : ∃ V, w.alloc (.cells #[.slice none 0 0] 45) = V := ⟨_, rfl⟩
  have hVb : Below w.heap.size w V := by rw [← hV]; exact (Below.refl _ _).alloc (Nat.le_refl _) _
  have hVp : V.heap[w.heap.size]? = some (.cells #[.slice none 0 0] 45 (0, 0)) := by rw [← hV]; exact new_at _ _ rfl
  rw [hV]
  clear hV
  have hN6 : 0 + 6 ^ N ≤ 4096 := by rcases hN with rfl | rfl | rfl <;> decide
  refine (pzLook_any w.heap.size w.heap.size A n c cs N lo hi hN hn hlen hcl hB (Nat.le_refl _) N [] 0 0 none [] (.slice none 0 0) [] V rfl (by omega) (by simp) (BegAt.nil_ _ _ _ _ _) (Rws.nil_ _ _) hVp (by simp [Value.ownBlock]) (by simpa using hN6) (hs.below hVb hB) hVb.size).mono ?_
  rintro e w1 ⟨rfl, v, vs, hr, hp, hlk, hlo⟩
  have q0 := cell_of hp 0
  simp only [List.getElem?_toArray, List.getElem?_cons_zero] at q0
  have hon : ([] : List (List Int)) ++ (onT [] N).filter (fitB toldV cs) = solF toldV N cs := by simp [onT, solF]
  rw [hon] at hr
  go_wp2
  go_ret
  exact ⟨v, vs, rfl, hr, hVb.trans (hlk.toBelow hVb.size (Nat.le_refl _) (fun g e => by cases e))⟩
end Go.Proofs.Ytoheoojpmndhoaa

/-
  The given program's list of all solutions, in blocks of their own that rise; a row of such lists is a nest.
  Conditions: two to four things.
-/
import Derived.Test.YtoheoojpmndhoaaPzP2
import Derived.Test.YtoheoojpmndhoaaNest
namespace Go.Proofs.Ytoheoojpmndhoaa
set_option linter.unusedVariables false
set_option linter.unusedSimpArgs false
open Go.RowKit

/-- The lists lie in blocks that rise. -/
def AscV (vs : List Value) : Prop := vs.Pairwise fun u v => ∀ g h, u.ownBlock = some g → v.ownBlock = some h → g < h
/-- All of the lists' blocks lie below one. -/
def UpV (vs : List Value) (b : Nat) : Prop := ∀ u ∈ vs, ∀ g, u.ownBlock = some g → g < b
theorem AscV.nil_ : AscV [] := List.Pairwise.nil
theorem UpV.nil_ (b : Nat) : UpV [] b := fun u hu => by cases hu
theorem UpV.mono {vs : List Value} {b c : Nat} (h : UpV vs b) (hb : b ≤ c) : UpV vs c := fun u hu g e => Nat.lt_of_lt_of_le (h u hu g e) hb
theorem AscV.snoc {vs : List Value} {u : Value} (h : AscV vs) (hu : ∀ g, u.ownBlock = some g → UpV vs g) : AscV (vs ++ [u]) := by
  refine List.pairwise_append.2 ⟨h, List.pairwise_singleton _ _, fun a ha b hb g k e1 e2 => ?_⟩
  obtain rfl : b = u := by simpa using hb
  exact hu k e2 a ha g e1
theorem UpV.snoc {vs : List Value} {u : Value} {b : Nat} (h : UpV vs b) (hu : ∀ g, u.ownBlock = some g → g < b) : UpV (vs ++ [u]) b := fun a ha g e => by
  rcases List.mem_append.1 ha with ha | ha
  · exact h a ha g e
  · obtain rfl : a = u := by simpa using ha
    exact hu g e

theorem rws_nest {w : World} {base n c : Nat} {A : Option Addr} {xss : List (List Int)} {vs : List Value} (h : Rws w base (.slice A n c) xss vs) (ha : AscV vs) : Nest w base w.heap.size A xss := by
  by_cases hx : xss = []
  · exact .inl hx
  have hpos : 0 < xss.length := List.length_pos_iff.2 hx
  obtain ⟨h1, h2⟩ := h
  rcases h1.2 with ⟨_, h0⟩ | ⟨g, cap, cur, hv, hg, hb, hnc, _, hs, ht⟩
  · omega
  · injection hv with e1 e2 e3
    subst e1
    have row : ∀ (k : Nat) xs, xss[k]? = some xs → ∃ B d, vs[k]? = some (.slice B xs.length d) ∧ cur[k]? = some (.slice B xs.length d) ∧ Own w base w.heap.size B xs ∧ (xs ≠ [] → ∃ b, B = some ⟨b, 0, none⟩ ∧ b ≠ g) := by
      intro k xs hk
      obtain ⟨B, d, e, ho, hf⟩ := h2.2 k xs hk
      have hkl := (List.getElem?_eq_some_iff.1 hk).1
      refine ⟨B, d, e, ?_, ho, fun hne => ?_⟩
      · rw [← Array.getElem?_toList, ← e, ← ht, List.getElem?_take_of_lt (by omega)]
      · obtain ⟨b, hbB⟩ := ho.head_ hne
        exact ⟨b, hbB, fun e' => hf hne b hbB (by rw [← e']; rfl)⟩
    refine .inr ⟨g, cur, _, fun k => match vs[k]? with | some (.slice (some a) _ _) => a.block | _ => 0, rfl, hg, heap_lt hb, hb, fun k xs hk => ?_, fun i j xs ys hi hj hxi hyj hij => ?_⟩
    · obtain ⟨B, d, e1, e2, ho, hf⟩ := row k xs hk
      refine ⟨B, d, e2, ho, fun hne => ?_⟩
      obtain ⟨b, rfl, hbg⟩ := hf hne
      exact ⟨by simp only [e1], by simpa only [e1] using hbg⟩
    · obtain ⟨B, d, e1, _, _, hf⟩ := row i xs hi
      obtain ⟨B', d', e1', _, _, hf'⟩ := row j ys hj
      obtain ⟨b, rfl, -⟩ := hf hxi
      obtain ⟨b', rfl, -⟩ := hf' hyj
      simp only [e1, e1']
      have hil := (List.getElem?_eq_some_iff.1 e1).1
      have hjl := (List.getElem?_eq_some_iff.1 e1').1
      have key : ∀ p q, p < q → ∀ (u v : Value) (bu bv : Nat), vs[p]? = some u → vs[q]? = some v → u.ownBlock = some bu → v.ownBlock = some bv → bu < bv := fun p q hpq u v bu bv hu hv' h3 h4 => by
        obtain ⟨hp, rfl⟩ := List.getElem?_eq_some_iff.1 hu
        obtain ⟨hq, rfl⟩ := List.getElem?_eq_some_iff.1 hv'
        exact List.pairwise_iff_getElem.1 ha p q hp hq hpq _ _ h3 h4
      rcases Nat.lt_or_gt_of_ne hij with hlt | hlt
      · exact Nat.ne_of_lt (key i j hlt _ _ b b' e1 e1' rfl rfl)
      · exact Nat.ne_of_gt (key j i hlt _ _ b' b e1' e1 rfl rfl)

def RetLookA (P b0 : Nat) (ob : Option Nat) (L : List (List Int)) (w : World) (e : Ending) (w' : World) : Prop :=
  e = .returned (.tuple #[]) ∧ ∃ v vs, Rws w' b0 v L vs ∧ w'.heap[P]? = some (.cells #[v] 45 (0, 0)) ∧ Lk P ob w w' ∧ Loc w ob v.ownBlock ∧ AscV vs ∧ UpV vs w'.heap.size

set_option maxRecDepth 100000 in
set_option maxHeartbeats 2000000 in
theorem pzLookA_none (P b0 : Nat) (A : Option Addr) (n c : Nat) (cs : List Clu) (N : Nat) (lo hi : Nat) (hN : N = 2 ∨ N = 3 ∨ N = 4) (hn : cs.length = n) (hlen : n ≤ 1048576) (hcl : ∀ c ∈ cs, clueB (N : Int) c = true) (hib : hi ≤ b0) (hbP : b0 ≤ P)
    (beg : List Int) (c2 : Nat) (A2 : Option Addr) (L : List (List Int)) (v : Value) (vs : List Value) (w : World) (hm : beg.length = N) (hbx : ∀ x ∈ beg, 1 ≤ x ∧ x ≤ 6) (hba : BegAt w P b0 v.ownBlock A2 beg) (hrw : Rws w b0 v L vs) (hP : w.heap[P]? = some (.cells #[v] 45 (0, 0))) (hfar : v.ownBlock ≠ some P)
    (hasc : AscV vs) (hup : UpV vs w.heap.size) (hbeg : ∀ a, A2 = some a → UpV vs a.block) (hL : L.length + 1 ≤ 4096) (hs : Seg w lo hi A (flat4 cs)) (hb0 : b0 ≤ w.heap.size) :
    Calls Try.prog 101 #[.int .i64 0, .slice A n c, .slice A2 N c2, .pointer (some ⟨P, 0, none⟩)] w (RetLookA P b0 v.ownBlock (L ++ [beg].filter (fitB toldV cs)) w) := by
  obtain ⟨j0, hj0, hy0, hy1, hy2⟩ := info_parts rowsT_info
  have hPlt := heap_lt hP
  have hh : hidB beg = true := hid_of (n := N) (by omega) (by omega) ⟨hm, hbx⟩
  have HN := Lib.hid hn
  have HM := Lib.hid hm
  have HH := Lib.hid hh
  have HCL := Lib.hid hcl
  have HRW := Lib.hid hrw
  have HBA := Lib.hid hba
  have HPW := Lib.hid hP
  have HOB := Lib.hid (show ∀ g, v.ownBlock = some g → b0 ≤ g ∧ g < w.heap.size from fun g e => hrw.1.lt g e)
  have HFAR := Lib.hid hfar
  have HASC := Lib.hid hasc
  have HUP := Lib.hid hup
  have HBG := Lib.hid (show ∀ g, (Value.slice A2 N c2).ownBlock = some g → UpV vs g from fun g e => by
    cases hA : A2 with
    | none => rw [hA] at e; cases e
    | some a => rw [hA] at e; injection e with e; subst e; exact hbeg a hA)
  have HBN0 := Lib.hid (show ∀ g, (Value.slice A2 N c2).ownBlock = some g → g < w.heap.size from fun g e => by
    rcases hba with h | ⟨g', e', _, _, _, hg', _⟩
    · rw [h] at hm; simp at hm; omega
    · rw [e'] at e; injection e with e; subst e; exact hg')
  clear hn hm hh hcl hrw hba hP hbx hfar hbeg
  go_enter Try.func101, Try.ntmps101
  go_wp2
  go_loopw [10, 29] (fun _ i wr => ∃ k : Nat, k ≤ n ∧ i = .int .i64 k ∧ Below w.heap.size w wr ∧ ∀ j c, j < k → cs[j]? = some c → decide (toldV c beg = c.2.2.2) = true) (fun _ i _ => n - (intOf i).toNat)
  case atStart => exact ⟨0, Nat.zero_le _, rfl, Below.refl _ _, fun j u hj => by omega⟩
  case round =>
    obtain ⟨k, hk, rfl, hbx, hall⟩ := hrel
    have HA := Lib.hid hall
    clear hall
    have hzx := hbx.size
    by_cases hlt : k < n
    · obtain ⟨b, off, x, y, z, u, rfl, _, hbB, hx, hc0, hc1, hc2, hc3⟩ := (hs.below hbx (by omega)).quad (k := k) (by rw [HN.out]; exact hlt)
      have HX := Lib.hid hx
      clear hx
      have hbr : b < wr.heap.size := by omega
      go_wp2_with fail
      obtain ⟨v1, hv1⟩ : ∃ v, wr.alloc (.cells #[.int .i64 x, .int .i64 y, .int .i64 z, .int .i64 u] 25) = v := ⟨_, rfl⟩
      have hb1 : Below wr.heap.size wr v1 := by rw [← hv1]; exact (Below.refl _ _).alloc (Nat.le_refl _) _
      rw [hv1]
      clear hv1
      have hz1 := hb1.size
      have hbx1 := hbx.trans (hb1.mono hbx.size)
      have hvo : ValOk (N : Int) x y z := ValOk.of_clue (c := (x, y, z, u)) (HCL.out _ (List.mem_of_getElem? HX.out))
      obtain ⟨q, hq⟩ : ∃ q, decide (toldK x y z beg = u) = q := ⟨_, rfl⟩
      have HQ := Lib.hid hq
      refine (pzFits_any A2 N c2 x y z u beg 0 w.heap.size _ HM.out HH.out hvo (HBA.out.seg.below hbx1 (Nat.le_refl _)) (by omega) q hq).mono ?_
      rintro e w2 ⟨rfl, hb2⟩
      clear hq
      have hbx2 := hbx1.trans (hb2.mono hbx1.size)
      cases q
      · go_wp2
        refine bodyPost_ret (results_none rfl _ _ _) rfl ?_
        have hfb : fitB toldV cs beg = false := fitB_not HX.out HQ.out
        have hf : [beg].filter (fitB toldV cs) = [] := by simp [hfb]
        rw [hf, List.append_nil]
        exact ⟨rfl, v, vs, HRW.out.below hbx2, (hbx2.block P hPlt).trans HPW.out, (Lk.refl P _ w).below hbx2, Loc.refl _ _, hasc, hup.mono hbx2.size⟩
      · go_wp2
        go_roundw
        case rel =>
          refine ⟨k + 1, by omega, by go_num, hbx2, fun j v hj hv => ?_⟩
          by_cases e : j = k
          · subst e; rw [HX.out] at hv; injection hv with hv; subst hv; exact HQ.out
          · exact HA.out j v (by omega) hv
        case measure => simp [intOf]; omega
    · obtain rfl : k = n := by omega
      have hf : [beg].filter (fitB toldV cs) = [beg] := by
        have hfb : fitB toldV cs beg = true := fitB_of fun j c hj => HA.out j c (by rw [← HN.out]; exact (List.getElem?_eq_some_iff.1 hj).1) hj
        simp [hfb]
      have HF := Lib.hid hf
      have HRW1 := Lib.hid (HRW.out.below hbx)
      have HBA1 := Lib.hid (HBA.out.below hbx)
      have HP1 := Lib.hid ((hbx.block P hPlt).trans HPW.out)
      have hPc : wr.cell? ⟨P, 0, none⟩ = some v := cell_of HP1.out 0
      have hPf : wr.frozen? ⟨P, 0, none⟩ = false := frozen_of HP1.out 0
      have HBX := Lib.hid hbx
      obtain ⟨B3, d3, hform⟩ := HRW.out.form
      subst hform
      obtain ⟨nv, hnv⟩ : ∃ nv, L.length = nv := ⟨_, rfl⟩
      rw [hnv] at HRW1 HOB HFAR hL hPc HP1 HBA1 ⊢
      have HNV := Lib.hid hnv
      have HONE := Lib.hid (show Rws (wr.alloc (.cells #[.slice A2 N c2] 39)) b0 (.slice (some ⟨wr.heap.size, 0, none⟩) 1 1) [beg] [.slice A2 N c2] from rws_one (c := c2) (by omega) HM.out HBA1.out.own)
      have hbx2 := (Below.refl wr.heap.size wr).alloc (Nat.le_refl _) (.cells #[.slice A2 N c2] 39)
      have HRW2 := Lib.hid (HRW1.out.below hbx2)
      have HBA2 := Lib.hid (HBA1.out.below hbx2)
      have HBX2 := Lib.hid hbx2
      have hnv2 : nv + 1 ≤ 4194304 := by omega
      have hPr : P < wr.heap.size := by omega
      clear hbx hnv hbx2 hf
      go_wp2_with (at_builtin; refine wpList_append_rows _ rfl _ _ 45 rfl b0 39 j0 Try.underlying45 hj0 hy0 hy1 hy2 _ nv vs rfl (by have h := HRW2.out.1; rw [HNV.out] at h; exact h) _ _ 1 [.slice A2 N c2] rfl HONE.out.1 HONE.out.2.one hnv2 (by have := HBX2.out.size; omega) ?_; intro v3 w3 hown3 hgr3 hloc3; obtain ⟨B4, d4, rfl⟩ := ownsRow_form hown3; have hP3 : w3.heap[P]? = some (.cells #[.slice B3 nv d3] 45 (0, 0)) := (hgr3.block P (by simp; omega) (fun e => HFAR.out e.symm)).trans ((HBX2.out.block P (by omega)).trans HP1.out); have hc3 := cell_of hP3 0; have hf3 := frozen_of hP3 0; have HP3 := Lib.hid hP3; have HO3 := Lib.hid hown3; have HG3 := Lib.hid hgr3; have HL3 := Lib.hid hloc3; clear hP3 hown3 hgr3 hloc3)
      have HLK3 := Lib.hid (show Lk P (Value.slice B3 nv d3).ownBlock w w3 from (((Lk.refl P _ w).below HBX.out).below HBX2.out).grown (fun g e => (HOB.out g e).2) HG3.out)
      have HR3 := Lib.hid (HRW2.out.app (rows_beg HBA2.out HM.out) (by rw [HNV.out]; exact HO3.out) HG3.out HL3.out)
      have HLO3 := Lib.hid (show Loc w (Value.slice B3 nv d3).ownBlock (Value.slice B4 (nv + 1) d4).ownBlock from HL3.out.imp id fun e => ⟨_, e, by simp; omega⟩)
      have HOF3 := Lib.hid (show (Value.slice B4 (nv + 1) d4).ownBlock ≠ some P from by
        rcases HL3.out with e | e
        · rw [e]; exact HFAR.out
        · rw [e]
          intro e'
          injection e' with e'
          simp at e'
          omega)
      have HBN := Lib.hid (show ∀ g, (Value.slice A2 N c2).ownBlock = some g → g < w3.heap.size from fun g e => Nat.lt_of_lt_of_le (HBN0.out g e) HLK3.out.size)
      go_end0
      rw [HF.out, HNV.out]
      exact ⟨rfl, .slice B4 (nv + 1) d4, _, HR3.out.setP (u := .slice B4 (nv + 1) d4) HP3.out HOF3.out, (set_self HP3.out 0 _).trans rfl, HLK3.out.set (.slice B4 (nv + 1) d4), HLO3.out, HASC.out.snoc HBG.out, by rw [World.size_setCell]; exact (HUP.out.mono HLK3.out.size).snoc HBN.out⟩
set_option maxRecDepth 100000 in
set_option maxHeartbeats 2000000 in
theorem pzLookA_any (P b0 : Nat) (A : Option Addr) (n c : Nat) (cs : List Clu) (N : Nat) (lo hi : Nat) (hN : N = 2 ∨ N = 3 ∨ N = 4) (hn : cs.length = n) (hlen : n ≤ 1048576) (hcl : ∀ c ∈ cs, clueB (N : Int) c = true) (hib : hi ≤ b0) (hbP : b0 ≤ P) (r : Nat) :
    ∀ (beg : List Int) (m c2 : Nat) (A2 : Option Addr) (L : List (List Int)) (v : Value) (vs : List Value) (w : World), beg.length = m → m + r = N → (∀ x ∈ beg, 1 ≤ x ∧ x ≤ 6) → BegAt w P b0 v.ownBlock A2 beg → Rws w b0 v L vs → w.heap[P]? = some (.cells #[v] 45 (0, 0)) → v.ownBlock ≠ some P → AscV vs → UpV vs w.heap.size → (∀ a, A2 = some a → UpV vs a.block) →
      L.length + 6 ^ r ≤ 4096 → Seg w lo hi A (flat4 cs) → b0 ≤ w.heap.size →
      Calls Try.prog 101 #[.int .i64 (r : Int), .slice A n c, .slice A2 m c2, .pointer (some ⟨P, 0, none⟩)] w (RetLookA P b0 v.ownBlock (L ++ (onT beg r).filter (fitB toldV cs)) w) := by
  induction r with
  | zero =>
    intro beg m c2 A2 L v vs w hm hmr hbx hba hrw hP hfar hasc hup hbeg hL hs hb0
    obtain rfl : m = N := by omega
    rw [onT_zero]
    exact pzLookA_none P b0 A n c cs m lo hi hN hn hlen hcl hib hbP beg c2 A2 L v vs w hm hbx hba hrw hP hfar hasc hup hbeg (by simpa using hL) hs hb0
  | succ r ih =>
    intro beg m c2 A2 L v vs w hm hmr hbx hba hrw hP hfar hasc hup hbeg hL hs hb0
    obtain ⟨i0, hi0, hz0, hz1, hz2⟩ := info_parts int_info
    have hPlt := heap_lt hP
    have IH := Lib.hid ih
    have HM := Lib.hid hm
    have HBXX := Lib.hid hbx
    have HOB := Lib.hid (show ∀ g, v.ownBlock = some g → b0 ≤ g ∧ g < w.heap.size from fun g e => hrw.1.lt g e)
    have HRW0 := Lib.hid hrw
    have HBA0 := Lib.hid hba
    have HP0 := Lib.hid hP
    have HF0 := Lib.hid hfar
    have HASC := Lib.hid hasc
    have HUP := Lib.hid hup
    obtain ⟨p, hp6⟩ : ∃ p, 6 ^ r = p := ⟨_, rfl⟩
    have hL6 : L.length + 6 * p ≤ 4096 := by rw [Nat.pow_succ, hp6] at hL; omega
    have HP6 := Lib.hid hp6
    have hr4 : r ≤ 4 := by omega
    have hs0 := hs
    obtain ⟨R, hR⟩ : ∃ R : Int, ((r + 1 : Nat) : Int) = R := ⟨_, rfl⟩
    rw [hR]
    have hR1 : R - 1 = (r : Int) := by omega
    have hR2 : 1 ≤ R ∧ R ≤ 5 := by omega
    have hR3 : decide (R > 0) = true := by simp; omega
    have hR4 : decide (0 < R) = true := by simp; omega
    clear ih hm hbx hrw hba hP hfar hL hp6 hs hR hasc hup hbeg
    go_enter Try.func101, Try.ntmps101
    go_wp2
    go_loopw [8] (fun i wr => ∃ k : Nat, k ≤ 6 ∧ i = .int .i64 ((k : Int) + 1) ∧ ∃ v' vs', Rws wr b0 v' (L ++ (upT beg r k).filter (fitB toldV cs)) vs' ∧ wr.heap[P]? = some (.cells #[v'] 45 (0, 0)) ∧ Lk P v.ownBlock w wr ∧ Loc w v.ownBlock v'.ownBlock ∧ BegAt wr P b0 v'.ownBlock A2 beg ∧ v'.ownBlock ≠ some P ∧ AscV vs' ∧ UpV vs' wr.heap.size) (fun i _ => 7 - (intOf i).toNat)
    case atStart => exact ⟨0, by omega, rfl, v, vs, by simpa [upT] using HRW0.out, HP0.out, Lk.refl _ _ _, Loc.refl _ _, HBA0.out, HF0.out, HASC.out, HUP.out⟩
    case round =>
      obtain ⟨k, hk, rfl, v', us, hr, hp, hlk, hlo, hba, hf1, hasc, hup⟩ := hrel
      have HASC1 := Lib.hid hasc
      have HUP1 := Lib.hid hup
      have hsz := hlk.size
      have HLK := Lib.hid hlk
      have HLO := Lib.hid hlo
      have HBA := Lib.hid hba
      have HRW := Lib.hid hr
      have HPP := Lib.hid hp
      have HF1 := Lib.hid hf1
      have HBB := Lib.hid (show Below b0 w wr from hlk.toBelow hb0 hbP fun g e => (HOB.out g e).1)
      have HOV := Lib.hid (show ∀ g, v'.ownBlock = some g → g < wr.heap.size from fun g e => (hr.1.lt g e).2)
      clear hlk hlo hba hr hp hf1 hasc hup
      by_cases hlt : k < 6
      · have HLN := Lib.hid (show (beg ++ [(k : Int) + 1]).length = m + 1 by rw [List.length_append, HM.out]; rfl)
        have HSG := Lib.hid HBA.out.seg
        go_wp2_with fail
        refine (l1Own_any A2 m c2 beg _ _ _ HM.out (by omega) HSG.out (Nat.le_refl _)).mono ?_
        rintro e w5 ⟨A5, c5, rfl, hown5, hb5⟩
        have hz5 := hb5.size
        have HOW5 := Lib.hid (hown5.alloc (.cells #[.int .i64 ((k : Int) + 1)] 3))
        have HS5 := Lib.hid (seg_one w5 ((k : Int) + 1) 3)
        have HLT5 := Lib.hid hown5.lt
        have HB5 := Lib.hid hb5
        clear hown5 hb5
        go_wp2_with (at_builtin; refine wpList_append_seg _ rfl _ _ 39 rfl wr.heap.size 3 i0 Try.underlying39 hi0 hz0 hz1 hz2 _ m _ rfl HOW5.out _ 1 1 [(k : Int) + 1] _ _ rfl rfl HS5.out (by omega) (by simp; omega) ?_; intro v6 w6 hown6 hgr6; obtain ⟨A6, c6, rfl⟩ := ownsRow_form hown6; have HA6 := Lib.hid (ownsRow_own (ys := beg ++ [(k : Int) + 1]) (by rw [HLN.out, List.map_append]; exact hown6)).2; have hb6 : Below wr.heap.size wr w6 := (HB5.out.alloc hz5 _).grown hgr6 (by simp; omega) (fun g' hg' => (HLT5.out g' hg').1); have hz6 := hb6.size; have HB6 := Lib.hid hb6; clear hown6 hgr6 hb6)
        have HBA6 := Lib.hid (HBA.out.below HB6.out)
        have HR6 := Lib.hid (HRW.out.below HB6.out)
        have HP6' := Lib.hid ((HB6.out.block P (heap_lt HPP.out)).trans HPP.out)
        have HLK6 := Lib.hid (HLK.out.below HB6.out)
        have HBG6 := Lib.hid (BegAt.of_own (P := P) (b0 := b0) (ob := v'.ownBlock) HA6.out (by omega) (heap_lt HPP.out) HOV.out)
        have HLE := Lib.hid (show (L ++ (upT beg r k).filter (fitB toldV cs)).length + 6 ^ r ≤ 4096 by
          have h1 := List.length_filter_le (fitB toldV cs) (upT beg r k)
          rw [upT_length, HP6.out] at h1
          have h2 : (k + 1) * p ≤ 6 * p := Nat.mul_le_mul_right _ (by omega)
          rw [Nat.succ_mul] at h2
          rw [List.length_append, HP6.out]
          omega)
        have HXX := Lib.hid (show (L ++ (upT beg r k).filter (fitB toldV cs)) ++ (onT (beg ++ [(k : Int) + 1]) r).filter (fitB toldV cs) = L ++ (upT beg r (k + 1)).filter (fitB toldV cs) by rw [upT, List.filter_append, List.append_assoc])
        have hm6 : ∀ x ∈ beg ++ [(k : Int) + 1], 1 ≤ x ∧ x ≤ 6 := fun x hx => by
          rcases List.mem_append.1 hx with h | h
          · exact HBXX.out x h
          · simp at h; omega
        have HBG7 := Lib.hid (show ∀ a, A6 = some a → UpV us a.block from fun a e => by
          have hne : beg ++ [(k : Int) + 1] ≠ [] := by simp
          obtain ⟨g, hg⟩ := HA6.out.head_ hne
          have h1 := HA6.out.lt_ hne hg
          rw [e] at hg
          injection hg with hg
          subst hg
          exact HUP1.out.mono h1.1)
        refine (IH.out (beg ++ [(k : Int) + 1]) (m + 1) c6 A6 _ v' us w6 HLN.out (by omega) hm6 HBG6.out HR6.out HP6'.out HF1.out HASC1.out (HUP1.out.mono hz6) HBG7.out HLE.out ((hs0.below HBB.out hib).below HB6.out (by omega)) (by omega)).mono ?_
        rintro e w8 ⟨rfl, v8, vs8, hr8, hp8, hlk8, hlo8, hasc8, hup8⟩
        have HASC8 := Lib.hid hasc8
        have HUP8 := Lib.hid hup8
        have hz8 := hlk8.size
        have HBA8 := Lib.hid (HBA6.out.lk hlk8 hlo8)
        have HLK8 := Lib.hid (HLK6.out.trans HLO.out hlk8)
        have HLO8 := Lib.hid (HLO.out.trans hlo8 (by omega))
        have HF8 := Lib.hid (show v8.ownBlock ≠ some P from by
          have hPw := heap_lt HPP.out
          rcases hlo8 with e | ⟨g, e, hg⟩
          · rw [e]; exact HF1.out
          · rw [e]; exact fun e' => by injection e' with e'; omega)
        rw [HXX.out] at hr8
        have HR8 := Lib.hid hr8
        have HP8 := Lib.hid hp8
        clear hr8 hp8 hlk8 hlo8 hm6 hasc8 hup8
        go_wp2
        go_roundw
        case rel => exact ⟨k + 1, by omega, by go_num, v8, vs8, HR8.out, HP8.out, HLK8.out, HLO8.out, HBA8.out, HF8.out, HASC8.out, HUP8.out⟩
        case measure => simp [intOf]; omega
      · obtain rfl : k = 6 := by omega
        have hx : L ++ (onT beg (r + 1)).filter (fitB toldV cs) = L ++ (upT beg r 6).filter (fitB toldV cs) := by rw [upT_all]
        have HX := Lib.hid hx
        clear hx
        go_wp2
        refine bodyPost_ret (results_none rfl _ _ _) rfl ?_
        rw [HX.out]
        exact ⟨rfl, v', us, HRW.out, HPP.out, HLK.out, HLO.out, HASC1.out, HUP1.out⟩

/-- All solutions, as the given program has them: lists in new memory, in a new row. -/
theorem pzAll_asc (A : Option Addr) (n c : Nat) (cs : List Clu) (N : Nat) (lo hi : Nat) (w : World) (hN : N = 2 ∨ N = 3 ∨ N = 4) (hn : cs.length = n) (hlen : n ≤ 1048576) (hcl : ∀ c ∈ cs, clueB (N : Int) c = true) (hs : Seg w lo hi A (flat4 cs)) (hB : hi ≤ w.heap.size) :
    Calls Try.prog 73 #[.int .i64 (N : Int), .slice A n c] w fun e w' => ∃ v vs, e = .returned v ∧ Rws w' w.heap.size v (solF toldV N cs) vs ∧ AscV vs ∧ Below w.heap.size w w' := by
  go_enter Try.func73, Try.ntmps73
  go_wp2_with fail
  obtain ⟨V, hV⟩ : ∃ V, w.alloc (.cells #[.slice none 0 0] 45) = V := ⟨_, rfl⟩
  have hVb : Below w.heap.size w V := by rw [← hV]; exact (Below.refl _ _).alloc (Nat.le_refl _) _
  have hVp : V.heap[w.heap.size]? = some (.cells #[.slice none 0 0] 45 (0, 0)) := by rw [← hV]; exact new_at _ _ rfl
  rw [hV]
  clear hV
  have hN6 : 0 + 6 ^ N ≤ 4096 := by rcases hN with rfl | rfl | rfl <;> decide
  refine (pzLookA_any w.heap.size w.heap.size A n c cs N lo hi hN hn hlen hcl hB (Nat.le_refl _) N [] 0 0 none [] (.slice none 0 0) [] V rfl (by omega) (by simp) (BegAt.nil_ _ _ _ _ _) (Rws.nil_ _ _) hVp (by simp [Value.ownBlock]) AscV.nil_ (UpV.nil_ _) (fun a e => by cases e) (by simpa using hN6) (hs.below hVb hB) hVb.size).mono ?_
  rintro e w1 ⟨rfl, v, vs, hr, hp, hlk, hlo, hasc, hup⟩
  have q0 := cell_of hp 0
  simp only [List.getElem?_toArray, List.getElem?_cons_zero] at q0
  have hon : ([] : List (List Int)) ++ (onT [] N).filter (fitB toldV cs) = solF toldV N cs := by simp [onT, solF]
  rw [hon] at hr
  go_wp2
  go_ret
  exact ⟨v, vs, rfl, hr, hasc, hVb.trans (hlk.toBelow hVb.size (Nat.le_refl _) (fun g e => by cases e))⟩
end Go.Proofs.Ytoheoojpmndhoaa

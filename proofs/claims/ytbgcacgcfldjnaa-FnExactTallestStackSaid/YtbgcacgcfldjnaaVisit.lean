/-
  The two visitors of the walk through all safe stacks, and what the walk leaves.
  Conditions: there are things.
-/
import Derived.Test.YtbgcacgcfldjnaaWalkS
import Derived.Test.YtbgcacgcfldjnaaPutTake
import Derived.Test.YtbgcacgcfldjnaaCloneI
namespace Go.Proofs.Ytbgcacgcfldjnaa
set_option linter.unusedVariables false
open Go.RowKit

theorem PileSt.set {w : World} {P n c b : Nat} {A : Option Addr} {v u : Value} {ks : List Int} (h : PileSt w P A n c v ks) (hb : b < P) : PileSt (w.setCell ⟨b, 0, none⟩ u) P A n c v ks := by
  refine ⟨(set_far w (p := ⟨b, 0, none⟩) (by show P ≠ b; omega) u).trans h.1, ?_⟩
  have hg := grown_set (World.grownBy.refl w (some b)) (p := ⟨b, 0, none⟩) rfl u
  exact h.2.kept hg (by
    by_cases e : v.ownBlock = none
    · exact .inl e
    · exact .inr fun e' => by have := (h.2.lt b e').1; omega)

/-- How many stacks have so many things. -/
def cntT (many : Int) (L : List (List Int)) : Nat := L.countP fun xs => decide ((xs.length : Int) = many)
theorem cntT_yes {many : Int} {L : List (List Int)} {ks : List Int} (h : (ks.length : Int) = many) : cntT many (L ++ [ks]) = cntT many L + 1 := by simp [cntT, h]
theorem cntT_no {many : Int} {L : List (List Int)} {ks : List Int} (h : ¬ (ks.length : Int) = many) : cntT many (L ++ [ks]) = cntT many L := by simp [cntT, h]
theorem cntT_le (many : Int) (L : List (List Int)) : cntT many L ≤ L.length := List.countP_le_length

structure RC (P p0 p1 : Nat) (many : Int) (ob : Option Nat) (L : List (List Int)) (w : World) : Prop where
  size : P ≤ w.heap.size
  far : ∀ g, ob = some g → P ≤ g
  lim : w.heap[p0]? = some (.cells #[.int .i64 many] 3 (0, 0))
  cnt : w.heap[p1]? = some (.cells #[.int .i64 (cntT many L : Nat)] 3 (0, 0))

theorem RC.keeps {P p0 p1 : Nat} {many : Int} (h0 : p0 < P) (h1 : p1 < P) : Keeps P (RC P p0 p1 many) where
  below ob L w w' h hb := ⟨Nat.le_trans h.size hb.size, h.far, (hb.block p0 (heap_lt h.lim)).trans h.lim, (hb.block p1 (heap_lt h.cnt)).trans h.cnt⟩
  row ob ob' L w w' h ho hob := by
    have hne : ∀ p, p < P → ¬ (p = P ∨ ob = some p) := fun p hp hs => by
      rcases hs with e | e
      · omega
      · have := h.far p e; omega
    refine ⟨Nat.le_trans h.size ho.size, fun g hg => ?_, (ho.block p0 (heap_lt h.lim) (hne p0 h0)).trans h.lim, (ho.block p1 (heap_lt h.cnt) (hne p1 h1)).trans h.cnt⟩
    rcases hob with e | ⟨g', e, hg'⟩
    · exact h.far g (e ▸ hg)
    · rw [e] at hg
      injection hg with hg
      have := h.size
      omega


/-- The first stack of the greatest size, and this. -/
def bestF (g : List Int → Int) (L : List (List Int)) : List Int × Int := L.foldl (bestT g) ([], 0)
theorem bestF_snoc (g : List Int → Int) (L : List (List Int)) (ks : List Int) : bestF g (L ++ [ks]) = bestT g (bestF g L) ks := by simp [bestF]
theorem bestT_yes {g : List Int → Int} {s : List Int × Int} {ks : List Int} (h : s.2 < g ks) : bestT g s ks = (ks, g ks) := if_pos h
theorem bestT_no {g : List Int → Int} {s : List Int × Int} {ks : List Int} (h : ¬ s.2 < g ks) : bestT g s ks = s := if_neg h
theorem bestF_pos (g : List Int → Int) (L : List (List Int)) : 0 ≤ (bestF g L).2 := by
  have : ∀ (L : List (List Int)) (s : List Int × Int), 0 ≤ s.2 → 0 ≤ (L.foldl (bestT g) s).2 := by
    intro L
    induction L with
    | nil => intro s h; exact h
    | cons x L ih =>
      intro s h
      refine ih _ ?_
      unfold bestT
      split
      · omega
      · exact h
  exact this L _ (Int.le_refl _)

structure RG (P p0 p1 p2 : Nat) (fn : Value) (g : List Int → Int) (ob : Option Nat) (L : List (List Int)) (w : World) : Prop where
  size : P ≤ w.heap.size
  far : ∀ g, ob = some g → P ≤ g
  fnc : w.heap[p0]? = some (.cells #[fn] 55 (0, 0))
  bst : w.heap[p1]? = some (.cells #[.int .i64 (bestF g L).2] 3 (0, 0))
  fst : ∃ Af nf cf, w.heap[p2]? = some (.cells #[.slice Af nf cf] 23 (0, 0)) ∧ (bestF g L).1.length = nf ∧ Own w (P + 1) w.heap.size Af (bestF g L).1 ∧ ((bestF g L).1 ≠ [] → ∀ g', Af = some ⟨g', 0, none⟩ → ob ≠ some g')

theorem RG.keeps {P p0 p1 p2 : Nat} {fn : Value} {g : List Int → Int} (h0 : p0 < P) (h1 : p1 < P) (h2 : p2 < P) : Keeps P (RG P p0 p1 p2 fn g) where
  below ob L w w' h hb := by
    obtain ⟨Af, nf, cf, e1, e2, e3, e4⟩ := h.fst
    exact ⟨Nat.le_trans h.size hb.size, h.far, (hb.block p0 (heap_lt h.fnc)).trans h.fnc, (hb.block p1 (heap_lt h.bst)).trans h.bst,
      ⟨Af, nf, cf, (hb.block p2 (heap_lt e1)).trans e1, e2, (e3.below hb (Nat.le_refl _)).more (Nat.le_refl _) hb.size, e4⟩⟩
  row ob ob' L w w' h ho hob := by
    obtain ⟨Af, nf, cf, e1, e2, e3, e4⟩ := h.fst
    have hne : ∀ p, p < P → ¬ (p = P ∨ ob = some p) := fun p hp hs => by
      rcases hs with e | e
      · omega
      · have := h.far p e; omega
    refine ⟨Nat.le_trans h.size ho.size, fun g hg => ?_, (ho.block p0 (heap_lt h.fnc) (hne p0 h0)).trans h.fnc, (ho.block p1 (heap_lt h.bst) (hne p1 h1)).trans h.bst,
      ⟨Af, nf, cf, (ho.block p2 (heap_lt e1) (hne p2 h2)).trans e1, e2, ?_, fun hx g' hA => ?_⟩⟩
    · rcases hob with e | ⟨g', e, hg'⟩
      · exact h.far g (e ▸ hg)
      · rw [e] at hg
        injection hg with hg
        have := h.size
        omega
    · rcases e3 with e3 | ⟨b, cs, T, e, b1, b2, hb, hc⟩
      · exact .inl e3
      · by_cases hx : (bestF g L).1 = []
        · exact .inl hx
        · exact .inr ⟨b, cs, T, e, b1, by have := ho.size; omega, (ho.block b b2 (fun hs => by
            rcases hs with hs | hs
            · omega
            · exact e4 hx b e hs)).trans hb, hc⟩
    · rcases hob with e | ⟨g2, e, hg2⟩
      · rw [e]; exact e4 hx g' hA
      · rw [e]
        intro e'
        injection e' with e'
        have := (e3.lt_ hx hA).2
        omega

theorem stack_pos {ts : List (Int × Int × Int)} (hg : goodT ts = true) {ks : List Int} (h : 0 < sumF (hT ts) ks) : ks ≠ [] := by
  intro e; subst e; simp [sumF] at h

set_option maxHeartbeats 1000000 in
theorem visitH (p0 p1 p2 : Nat) (A : Option Addr) (n c : Nat) (ts : List (Int × Int × Int)) (lo hi P b0 : Nat) (hn : ts.length = n) (hg : goodT ts = true) (hib : hi ≤ b0) (h0 : p0 < P) (h1 : p1 < P) (h2 : p2 < P) (h01 : p0 ≠ p1) (h02 : p0 ≠ p2) (h12 : p1 ≠ p2) (hb1 : b0 ≤ p1) (hb2 : b0 ≤ p2) :
    VisitG p0 p1 p2 A n c ts lo hi P b0 (RG P p0 p1 p2 (.func (.func 21) #[] #[]) (fun xs => sumF (hT ts) xs)) := by
  intro ks L v w hst hL hbs hs hp hr
  have h7 : ts.length ≤ 7 := (goodT_at hg).2.1
  obtain ⟨B, d, rfl⟩ := ownsRow_form hp.2
  obtain ⟨m, hm⟩ : ∃ m, ks.length = m := ⟨_, rfl⟩
  have HP0 := Lib.hid hp
  have HR0 := Lib.hid hr
  rw [hm] at hp
  have hcn : w.cell? ⟨p0, 0, none⟩ = some (.func (.func 21) #[] #[]) := (cell_of hr.fnc 0).trans rfl
  obtain ⟨s, hs2⟩ : ∃ s, bestF (fun xs => sumF (hT ts) xs) L = s := ⟨_, rfl⟩
  have hpos : 0 ≤ s.2 := by rw [← hs2]; exact bestF_pos _ _
  obtain ⟨b, hb⟩ : ∃ b, s.2 = b := ⟨_, rfl⟩
  rw [hb] at hpos
  have HBV := Lib.hid hb
  have HS2 := Lib.hid hs2
  have HM := Lib.hid hm
  have HST := Lib.hid hst
  have HS := Lib.hid hs
  have HPP := Lib.hid hp.1
  have HOW := Lib.hid hp.2
  have HSNOC := Lib.hid (bestF_snoc (fun xs => sumF (hT ts) xs) L ks)
  have hPw := heap_lt hp.1
  have hm7 : m ≤ 7 := by have := stackB_len hst; omega
  have hiw : hi ≤ w.heap.size := by omega
  obtain ⟨sz, hsz⟩ : ∃ sz, sumF (hT ts) ks = sz := ⟨_, rfl⟩
  have HSZ := Lib.hid hsz
  clear hsz
  clear hst hs hp hr hm hs2 hb
  by_cases hgt : b < sz
  · have hd : decide (b < sz) = true := decide_eq_true hgt
    have HNE := Lib.hid (show ks ≠ [] from stack_pos hg (by rw [HSZ.out]; omega))
    obtain ⟨g, cap, hv, hg0, hg1, _, _⟩ := ownsRow_head HOW.out (by rcases Nat.eq_zero_or_pos ks.length with h | h; exact absurd (List.eq_nil_of_length_eq_zero h) HNE.out; exact h)
    injection hv with e1 e2 e3
    subst e1 e3
    clear e2
    have HBT := Lib.hid (bestT_yes (g := fun xs => sumF (hT ts) xs) (s := s) (ks := ks) (by rw [HBV.out, HSZ.out]; exact hgt))
    have HSEG := Lib.hid (ownsRow_own HOW.out).2.seg
    go_enter Try.func38, Try.ntmps38
    go_wp2_with fail
    refine (height_any P _ A _ n c m _ ts ks lo hi _ _ _ HPP.out hn hg HM.out HST.out HS.out hiw HSEG.out (by exact Nat.le_refl _)).mono ?_
    rw [HSZ.out]
    rintro e w1 ⟨rfl, hbh⟩
    have hz1 := hbh.size
    have HBH := Lib.hid hbh
    have HP := Lib.hid (HP0.out.below hbh)
    have HR := Lib.hid ((RG.keeps h0 h1 h2).below _ _ _ _ HR0.out hbh)
    obtain ⟨Af, nf, cf, e1, e2, e3, e4⟩ := HR.out.fst
    have hbst := HR.out.bst
    rw [HS2.out] at hbst e2 e3 e4
    have hcb : w1.cell? ⟨p1, 0, none⟩ = some (.int .i64 s.2) := (cell_of hbst 0).trans rfl
    rw [HBV.out] at hcb
    have hfb := frozen_of hbst 0
    have hcf : w1.cell? ⟨p2, 0, none⟩ = some (.slice Af nf cf) := (cell_of e1 0).trans rfl
    have hff := frozen_of e1 0
    have hp1 := HP.out.1
    rw [HM.out] at hp1
    obtain ⟨p0c, p1c, _, _⟩ := pile_cells hp1
    have HBST := Lib.hid hbst
    have HE1 := Lib.hid e1
    have HE2 := Lib.hid e2
    have HE3 := Lib.hid e3
    have HE4 := Lib.hid e4
    clear hbst e1 e2 e3 e4 hp1 hcn
    have HSEG1 := Lib.hid (HSEG.out.below hbh (by exact Nat.le_refl _))
    clear hbh
    go_wp2_with fail
    refine (cloneI_any _ m _ ks _ _ _ HM.out (by omega) HSEG1.out hz1).mono ?_
    rintro e w2 ⟨v2, rfl, hown2, hb2'⟩
    obtain ⟨A2, c2, rfl⟩ := ownsRow_form hown2
    have f1 := (hb2'.block p1 (heap_lt HBST.out)).trans HBST.out
    have f2 := (hb2'.block p2 (heap_lt HE1.out)).trans HE1.out
    have f0 := (hb2'.block p0 (heap_lt HR.out.fnc)).trans HR.out.fnc
    have y1 : w2.cell? ⟨p1, 0, none⟩ = some (.int .i64 s.2) := (cell_of f1 0).trans rfl
    have y2 : w2.cell? ⟨p2, 0, none⟩ = some (.slice Af nf cf) := (cell_of f2 0).trans rfl
    have x1 := frozen_of f1 0
    have x2 := frozen_of f2 0
    have HF0 := Lib.hid f0
    have HF1 := Lib.hid f1
    have HF2 := Lib.hid f2
    have HB2 := Lib.hid (HBH.out.trans (hb2'.mono hz1))
    have HO2 := Lib.hid (ownsRow_own (ys := ks) (by rw [HM.out]; exact hown2)).2
    have hz2 := hb2'.size
    have HP2 := Lib.hid (HP.out.below hb2')
    clear f0 f1 f2 hown2 hb2' p0c p1c hcb hcf hfb hff
    go_wp2
    go_end0
    have hgA := grown_set (World.grownBy.refl w2 (some p2)) (p := ⟨p2, 0, none⟩) rfl (.slice A2 m c2)
    have hgB := grown_set (World.grownBy.refl (w2.setCell ⟨p2, 0, none⟩ (.slice A2 m c2)) (some p1)) (p := ⟨p1, 0, none⟩) rfl (.int .i64 sz)
    have hsS : ((w2.setCell ⟨p2, 0, none⟩ (.slice A2 m c2)).setCell ⟨p1, 0, none⟩ (.int .i64 sz)).heap.size = w2.heap.size := by simp [World.setCell]
    refine ⟨rfl, ⟨_, (HP2.out.set h2).set h1, ⟨by rw [hsS]; have := HR.out.size; omega, HR.out.far, (set_far _ (p := ⟨p1, 0, none⟩) h01 _).trans ((set_far _ (p := ⟨p2, 0, none⟩) h02 _).trans HF0.out), ?_, ?_⟩⟩, ((HB2.out.mono hbs).setCell (p := ⟨p2, 0, none⟩) hb2 _).setCell (p := ⟨p1, 0, none⟩) hb1 _⟩
    · rw [HSNOC.out, HS2.out, HBT.out, set_self ((set_far _ (p := ⟨p2, 0, none⟩) h12 _).trans HF1.out) 0 _, ← HSZ.out]; rfl
    · rw [HSNOC.out, HS2.out, HBT.out]
      refine ⟨A2, m, c2, (set_far _ (p := ⟨p1, 0, none⟩) (Ne.symm h12) _).trans ((set_self HF2.out 0 _).trans rfl), HM.out, ?_, fun hx g' hA e => ?_⟩
      · rw [hsS]
        refine Own.more (Own.grownFar (Own.grownFar HO2.out hgA (Nat.le_refl _) (fun hx g hA e => ?_)) hgB (by simp [World.setCell]) (fun hx g hA e => ?_)) (by omega) (Nat.le_refl _)
        · have h := (HO2.out.lt_ hx hA).1; injection e with e; omega
        · have h := (HO2.out.lt_ hx hA).1; injection e with e; omega
      · have h := (HO2.out.lt_ hx hA).1; have e' : g = g' := (by injection e); omega
  · have hd : decide (b < sz) = false := decide_eq_false hgt
    have HBT := Lib.hid (bestT_no (g := fun xs => sumF (hT ts) xs) (s := s) (ks := ks) (by rw [HBV.out, HSZ.out]; exact hgt))
    have HSEG := Lib.hid (ownsRow_own HOW.out).2.seg
    go_enter Try.func38, Try.ntmps38
    go_wp2_with fail
    refine (height_any P _ A _ n c m _ ts ks lo hi _ _ _ HPP.out hn hg HM.out HST.out HS.out hiw HSEG.out (by exact Nat.le_refl _)).mono ?_
    rw [HSZ.out]
    rintro e w1 ⟨rfl, hbh⟩
    have hz1 := hbh.size
    have HBH := Lib.hid hbh
    have HP := Lib.hid (HP0.out.below hbh)
    have HR := Lib.hid ((RG.keeps h0 h1 h2).below _ _ _ _ HR0.out hbh)
    obtain ⟨Af, nf, cf, e1, e2, e3, e4⟩ := HR.out.fst
    have hbst := HR.out.bst
    rw [HS2.out] at hbst e2 e3 e4
    have hcb : w1.cell? ⟨p1, 0, none⟩ = some (.int .i64 s.2) := (cell_of hbst 0).trans rfl
    rw [HBV.out] at hcb
    have hfb := frozen_of hbst 0
    have hcf : w1.cell? ⟨p2, 0, none⟩ = some (.slice Af nf cf) := (cell_of e1 0).trans rfl
    have hff := frozen_of e1 0
    have hp1 := HP.out.1
    rw [HM.out] at hp1
    obtain ⟨p0c, p1c, _, _⟩ := pile_cells hp1
    have HBST := Lib.hid hbst
    have HE1 := Lib.hid e1
    have HE2 := Lib.hid e2
    have HE3 := Lib.hid e3
    have HE4 := Lib.hid e4
    clear hbst e1 e2 e3 e4 hp1 hcn
    clear hbh
    go_wp2
    go_end0
    refine ⟨rfl, ⟨_, HP.out, ⟨HR.out.size, HR.out.far, HR.out.fnc, ?_, ?_⟩⟩, HBH.out.mono hbs⟩
    · rw [HSNOC.out, HS2.out, HBT.out]; exact HBST.out
    · rw [HSNOC.out, HS2.out, HBT.out]; exact ⟨Af, nf, cf, HE1.out, HE2.out, HE3.out, HE4.out⟩

end Go.Proofs.Ytbgcacgcfldjnaa

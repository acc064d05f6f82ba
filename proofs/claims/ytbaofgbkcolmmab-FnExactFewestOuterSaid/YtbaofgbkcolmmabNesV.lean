/-
  The written program's walk through all nestings, in their order.
  Conditions: there are boxes, and the visitor keeps what it keeps.
-/
import Derived.Test.YtbaofgbkcolmmabNesW
import Derived.Test.YtbaofgbkcolmmabIsNest
namespace Go.Proofs.Ytbaofgbkcolmmab
set_option linter.unusedVariables false
open Go.RowKit

/-- A nesting in memory, at block 'P', its numbers elsewhere behind it. -/
def PileSt (w : World) (P : Nat) (A : Option Addr) (n c : Nat) (v : Value) (ks : List Int) : Prop :=
  w.heap[P]? = some (.cells #[.slice A n c, v] 113 (0, 0)) ∧ w.ownsRow (P + 1) 3 1 v ks.length (ks.map (Value.int .i64))

theorem PileSt.below {w w' : World} {P n c : Nat} {A : Option Addr} {v : Value} {ks : List Int} (h : PileSt w P A n c v ks) (hb : Below w.heap.size w w') : PileSt w' P A n c v ks :=
  ⟨(hb.block P (heap_lt h.1)).trans h.1, row_below h.2 hb⟩
theorem PileSt.far {w : World} {P n c : Nat} {A : Option Addr} {v : Value} {ks : List Int} (h : PileSt w P A n c v ks) : v.ownBlock ≠ some P := fun e => by have := (h.2.lt P e).1; omega

/-- What the visitor keeps stays where new memory is made, and where the nesting turns. -/
structure Keeps (P : Nat) (R : Option Nat → List (List Int) → World → Prop) : Prop where
  below : ∀ ob L (w w' : World), R ob L w → Below w.heap.size w w' → R ob L w'
  row : ∀ ob ob' L (w w' : World), R ob L w → Only (fun b => b = P ∨ ob = some b) w w' → (ob' = ob ∨ ∃ g, ob' = some g ∧ w.heap.size ≤ g) → R ob' L w'

/-- The walk has been through the nestings. -/
def RetWalk (P b0 : Nat) (R : Option Nat → List (List Int) → World → Prop) (A : Option Addr) (n c : Nat) (ks : List Int) (L : List (List Int)) (w : World) (e : Ending) (w' : World) : Prop :=
  e = .returned (.tuple #[]) ∧ (∃ v, PileSt w' P A n c v ks ∧ R v.ownBlock L w') ∧ Below b0 w w'

/-- What the visitor does. -/
def VisitN (p0 p1 p2 : Nat) (A : Option Addr) (n c : Nat) (bs : List (Int × Int × Int)) (lo hi P b0 : Nat) (R : Option Nat → List (List Int) → World → Prop) : Prop :=
  ∀ (ks : List Int) (L : List (List Int)) (v : Value) (w : World), inN n ks → ks.length = n → L.length < 2097152 → b0 ≤ w.heap.size → Seg w lo hi A (flat3 bs) → PileSt w P A n c v ks → R v.ownBlock L w →
    Calls Try.prog 88 #[v, .pointer (some ⟨p0, 0, none⟩), .pointer (some ⟨p1, 0, none⟩), .pointer (some ⟨p2, 0, none⟩)] w (RetWalk P b0 R A n c ks (L ++ [ks]) w)

set_option maxRecDepth 100000 in
set_option maxHeartbeats 4000000 in
theorem walkN_any (p0 p1 p2 : Nat) (A : Option Addr) (n c : Nat) (bs : List (Int × Int × Int)) (lo hi P b0 : Nat) (R : Option Nat → List (List Int) → World → Prop) (hn : bs.length = n) (hg : goodN bs = true) (hib : hi ≤ b0) (hbP : b0 ≤ P) (hR : Keeps P R)
    (hV : VisitN p0 p1 p2 A n c bs lo hi P b0 R) (f : Nat) :
    ∀ (ks : List Int) (L : List (List Int)) (v : Value) (w : World), f + ks.length = n → inN n ks → L.length + (nesF bs f ks).length ≤ 2097152 → b0 ≤ w.heap.size → Seg w lo hi A (flat3 bs) → PileSt w P A n c v ks → R v.ownBlock L w →
      Calls Try.prog 87 #[.pointer (some ⟨P, 0, none⟩), .func (.func 88) #[] #[.pointer (some ⟨p0, 0, none⟩), .pointer (some ⟨p1, 0, none⟩), .pointer (some ⟨p2, 0, none⟩)]] w (RetWalk P b0 R A n c ks (L ++ nesF bs f ks) w) := by
  have hn7 : n ≤ 7 := by rw [← hn]; exact (goodN_at hg).2.1
  induction f with
  | zero =>
    intro ks L v w hf hin hL hb0 hs hp hr
    obtain ⟨B, d, rfl⟩ := ownsRow_form hp.2
    obtain ⟨m, hm⟩ : ∃ m, ks.length = m := ⟨_, rfl⟩
    obtain rfl : m = n := by omega
    have HLN := Lib.hid hm
    rw [hm] at hp hr
    obtain ⟨q0, q1, z0, z1⟩ := pile_cells hp.1
    have hee : ((m : Int) == (m : Int)) = true := by simp
    have HV := Lib.hid hV
    have HKP := Lib.hid hR
    have HIN := Lib.hid hin
    have HP := Lib.hid hp
    have HRR := Lib.hid hr
    have HS := Lib.hid hs
    have hL1 : L.length < 2097152 := by rw [show (nesF bs 0 ks).length = 1 from rfl] at hL; omega
    clear hn hg hV hR hin hp hr hL hs hf hm
    go_enter Try.func87, Try.ntmps87
    go_wp2_with fail
    go_quiet (fail)
    go_wp2_with fail
    refine (HV.out ks L _ (w.drewN nq) HIN.out HLN.out hL1 hb0 (HS.out.below (below_drewN (Below.refl b0 w) _) hib) (HP.out.below (below_drewN (Below.refl _ _) _)) (HKP.out.below _ _ _ _ HRR.out (below_drewN (Below.refl _ _) _))).mono ?_
    rintro e w1 ⟨rfl, hx, hb1⟩
    have HX := Lib.hid hx
    have HB1 := Lib.hid ((below_drewN (Below.refl b0 w) nq).trans hb1)
    clear hx hb1
    go_wp2
    go_end0
    exact ⟨rfl, HX.out, HB1.out⟩
  | succ f ih =>
    intro ks L v w hf hin hL hb0 hs hp hr
    obtain ⟨B, d, rfl⟩ := ownsRow_form hp.2
    obtain ⟨m, hm⟩ : ∃ m, ks.length = m := ⟨_, rfl⟩
    rw [hm] at hp hr
    obtain ⟨q0, q1, z0, z1⟩ := pile_cells hp.1
    have hmn : m < n := by omega
    have hee : ((m : Int) == (n : Int)) = false := by rw [beq_eq_false_iff_ne]; omega
    have IH := Lib.hid ih
    have HN := Lib.hid hn
    have HM := Lib.hid hm
    have HF := Lib.hid hf
    have HKP := Lib.hid hR
    have HIN := Lib.hid hin
    have HP := Lib.hid hp
    have HRR := Lib.hid hr
    have HS := Lib.hid hs
    have HALL := Lib.hid (nesU_all (f := f) (beg := ks) hn)
    have HLL := Lib.hid (show ∀ u : Int, u ≤ (n : Int) → L.length + (nesU bs f ks u).length ≤ 2097152 from fun u hu => by
      rw [nesU_all hn] at hL
      have : (nesU bs f ks u).length ≤ (nesU bs f ks (n : Int)).length := nesK_mono (by omega)
      omega)
    clear ih hn hg hV hR hin hp hr hL hs hf hm
    go_enter Try.func87, Try.ntmps87
    go_wp2_with fail
    go_quiet (fail)
    have HP0 := Lib.hid (HP.out.below (below_drewN (Below.refl _ _) nq))
    have HR0 := Lib.hid (HKP.out.below _ _ _ _ HRR.out (below_drewN (Below.refl _ _) nq))
    have HBQ := Lib.hid (below_drewN (Below.refl b0 w) nq)
    clear q0 q1 z0 z1
    go_wp2_with fail
    go_loopw [4] (fun i wr => ∃ u : Int, -1 ≤ u ∧ u ≤ (n : Int) ∧ i = .int .i64 u ∧ (∃ v, PileSt wr P A n c v ks ∧ R v.ownBlock (L ++ nesU bs f ks u) wr) ∧ Below b0 w wr) (fun i _ => ((n : Int) - intOf i).toNat)
    case atStart => exact ⟨-1, by omega, by omega, rfl, ⟨_, HP0.out, by rw [nesU_zero, List.append_nil]; exact HR0.out⟩, HBQ.out⟩
    case round =>
      rename World => wo
      obtain ⟨u, hu1, hu2, rfl, ⟨v2, hp2, hr2⟩, hb2⟩ := hrel
      have hsz := hb2.size
      obtain ⟨B2, d2, rfl⟩ := ownsRow_form hp2.2
      rw [HM.out] at hp2 hr2
      obtain ⟨q0, q1, z0, z1⟩ := pile_cells hp2.1
      have HP2 := Lib.hid hp2
      have HR2 := Lib.hid hr2
      have HB2 := Lib.hid hb2
      have HS2 := Lib.hid (HS.out.below hb2 hib)
      clear hp2 hr2 hb2
      by_cases hlt : u < (n : Int)
      · have hl2 := HLL.out (u + 1) (by omega)
        cases hcan : freeB bs ks m u
        · have HC := Lib.hid hcan
          have HNO := Lib.hid (show nesU bs f ks (u + 1) = nesU bs f ks u from nesU_no hu1 (by rw [HM.out]; exact hcan))
          clear hcan hl2
          go_wp2_with fail
          refine (canGoOn_any P _ A B2 n c m d2 bs ks u lo hi _ _ wo HN.out (by omega) HS2.out HM.out hmn (ownsRow_own HP2.out.2).2.seg HP2.out.1 false HC.out).mono ?_
          rintro e w4 ⟨rfl, hb4⟩
          have HP4 := Lib.hid (HP2.out.below hb4)
          have HR4 := Lib.hid (HKP.out.below _ _ _ _ HR2.out hb4)
          have HB4 := Lib.hid (HB2.out.trans (hb4.mono (by omega)))
          clear hb4 q0 q1 z0 z1
          go_wp2
          go_roundw
          case rel => exact ⟨u + 1, by omega, by omega, by go_num, ⟨_, HP4.out, by rw [HNO.out]; exact HR4.out⟩, HB4.out⟩
          case measure => simp [intOf]; omega
        · have HC := Lib.hid hcan
          have HYEA := Lib.hid (show nesU bs f ks (u + 1) = nesU bs f ks u ++ nesF bs f (ks ++ [u]) from nesU_yes hu1 (by rw [HM.out]; exact hcan))
          have HIN2 := Lib.hid (inN_snoc HIN.out ⟨hu1, hlt⟩)
          have HL2 := Lib.hid (show (L ++ nesU bs f ks u).length + (nesF bs f (ks ++ [u])).length ≤ 2097152 by
            have e1 := congrArg List.length HYEA.out
            rw [List.length_append] at e1
            have e2 : (L ++ nesU bs f ks u).length = L.length + (nesU bs f ks u).length := List.length_append
            omega)
          clear hcan hl2
          go_wp2_with fail
          refine (canGoOn_any P _ A B2 n c m d2 bs ks u lo hi _ _ wo HN.out (by omega) HS2.out HM.out hmn (ownsRow_own HP2.out.2).2.seg HP2.out.1 true HC.out).mono ?_
          rintro e w3 ⟨rfl, hb3⟩
          have HP3 := Lib.hid (HP2.out.below hb3)
          have HR3 := Lib.hid (HKP.out.below _ _ _ _ HR2.out hb3)
          have HB3 := Lib.hid (HB2.out.trans (hb3.mono (by omega)))
          have hz3 := hb3.size
          have hP3 := heap_lt HP3.out.1
          have HOL := Lib.hid (show ∀ g, (Value.slice B2 m d2).ownBlock = some g → P + 1 ≤ g ∧ g < w3.heap.size from fun g hg => HP3.out.2.lt g hg)
          clear hb3 q0 q1 z0 z1
          go_wp2_with fail
          refine (goOn2_any P _ (P + 1) _ _ m ks u _ HP3.out.1 (by have h := HP3.out.2; rw [HM.out] at h; exact h) HP3.out.far (by omega) (by omega)).mono ?_
          rintro e w4 ⟨rfl, v4, hp4, how4, _, ho4, hl4⟩
          have HP4 := Lib.hid (show PileSt w4 P A n c v4 (ks ++ [u]) from ⟨hp4, by rw [List.length_append, HM.out]; exact how4⟩)
          have HR4 := Lib.hid (HKP.out.row _ v4.ownBlock _ _ _ HR3.out ho4 (hl4.imp id fun h => ⟨_, h, Nat.le_succ _⟩))
          have HB4 := Lib.hid (HB3.out.trans (ho4.below (by omega) (fun k hk => by rcases hk with h | h; omega; have := (HOL.out _ h).1; omega)))
          have hz4 := HB4.out.size
          have hsk4 := ho4.size
          clear hp4 how4 ho4 hl4
          go_wp2_with fail
          refine (IH.out (ks ++ [u]) (L ++ nesU bs f ks u) v4 w4 (by rw [List.length_append]; have := HF.out; simp; omega) HIN2.out HL2.out (by omega) (HS.out.below HB4.out hib) HP4.out HR4.out).mono ?_
          rintro e w5 ⟨rfl, ⟨v5, hp5, hr5⟩, hb5⟩
          have hl5 : (ks ++ [u]).length = m + 1 := by rw [List.length_append, HM.out]; rfl
          obtain ⟨hp5a, hp5b⟩ := hp5
          rw [hl5] at hp5b
          obtain ⟨g5, d5, rfl, hg51, hg52, _, _⟩ := ownsRow_head (ys := ks ++ [u]) hp5b (by omega)
          have HB5 := Lib.hid (HB4.out.trans (hb5.mono (Nat.le_refl _)))
          have HPA := Lib.hid hp5a
          have HPB := Lib.hid hp5b
          have HR5 := Lib.hid hr5
          have hz5 := hb5.size
          clear hp5a hp5b hr5 hb5 hl5
          go_wp2_with fail
          refine (goBack_any P _ (P + 1) g5 m d5 _ ks u _ HPA.out HPB.out (by omega) (by omega)).mono ?_
          rintro e w6 ⟨rfl, hp6, how6, ho6⟩
          have HP6 := Lib.hid (show PileSt w6 P A n c (.slice (some ⟨g5, 0, none⟩) m d5) ks from ⟨hp6, by rw [HM.out]; exact how6⟩)
          have HR6 := Lib.hid (HKP.out.row _ (Value.slice (some ⟨g5, 0, none⟩) m d5).ownBlock _ _ _ HR5.out (ho6.mono (fun k hk => .inl hk)) (.inl rfl))
          have HB6 := Lib.hid (HB5.out.trans (ho6.below (by omega) (fun k hk => by have hk' : k = P := hk; omega)))
          clear hp6 how6 ho6
          go_wp2
          go_roundw
          case rel => exact ⟨u + 1, by omega, by omega, by go_num, ⟨_, HP6.out, by rw [HYEA.out, ← List.append_assoc]; exact HR6.out⟩, HB6.out⟩
          case measure => simp [intOf]; omega
      · obtain rfl : u = (n : Int) := by omega
        go_wp2
        go_end0
        exact ⟨rfl, ⟨_, HP2.out, by rw [HALL.out]; exact HR2.out⟩, HB2.out⟩
end Go.Proofs.Ytbaofgbkcolmmab

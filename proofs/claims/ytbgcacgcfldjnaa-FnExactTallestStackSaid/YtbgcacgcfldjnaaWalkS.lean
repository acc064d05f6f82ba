/-
  The written program's walk through all safe stacks, in their order.
  Conditions: there are things, and the numbers are a stack of them.
-/
import Derived.Test.YtbgcacgcfldjnaaPileH
import Derived.Test.YtbgcacgcfldjnaaAllS
import Derived.Test.YtbgcacgcfldjnaaOnly
import Derived.Lib.MinMax
namespace Go.Proofs.Ytbgcacgcfldjnaa
set_option linter.unusedVariables false
open Go.RowKit

/-- A stack in memory, at block 'P', its numbers elsewhere behind it. -/
def PileSt (w : World) (P : Nat) (A : Option Addr) (n c : Nat) (v : Value) (ks : List Int) : Prop :=
  w.heap[P]? = some (.cells #[.slice A n c, v] 45 (0, 0)) ∧ w.ownsRow (P + 1) 3 1 v ks.length (ks.map (Value.int .i64))

theorem PileSt.below {w w' : World} {P n c : Nat} {A : Option Addr} {v : Value} {ks : List Int} (h : PileSt w P A n c v ks) (hb : Below w.heap.size w w') : PileSt w' P A n c v ks :=
  ⟨(hb.block P (heap_lt h.1)).trans h.1, row_below h.2 hb⟩
theorem PileSt.far {w : World} {P n c : Nat} {A : Option Addr} {v : Value} {ks : List Int} (h : PileSt w P A n c v ks) : v.ownBlock ≠ some P := fun e => by have := (h.2.lt P e).1; omega

/-- What the visitor keeps stays where new memory is made, and where the stack turns. -/
structure Keeps (P : Nat) (R : Option Nat → List (List Int) → World → Prop) : Prop where
  below : ∀ ob L (w w' : World), R ob L w → Below w.heap.size w w' → R ob L w'
  row : ∀ ob ob' L (w w' : World), R ob L w → Only (fun b => b = P ∨ ob = some b) w w' → (ob' = ob ∨ ∃ g, ob' = some g ∧ w.heap.size ≤ g) → R ob' L w'

/-- The walk has been through the stacks 'M'. -/
def RetWalk (P b0 : Nat) (R : Option Nat → List (List Int) → World → Prop) (A : Option Addr) (n c : Nat) (ks : List Int) (L : List (List Int)) (w : World) (e : Ending) (w' : World) : Prop :=
  e = .returned (.tuple #[]) ∧ (∃ v, PileSt w' P A n c v ks ∧ R v.ownBlock L w') ∧ Below b0 w w'

theorem thg_row {w w' : World} {P g : Nat} {x y z : Int} {ob : Option Nat} (h : ThgAt w g x y z) (ho : Only (fun b => b = P ∨ ob = some b) w w') (h1 : g ≠ P) (h2 : ob ≠ some g) : ThgAt w' g x y z := by
  have hl := cell_lt h.1
  have e := World.cell?_of_block (w := w) (w' := w') (a := ⟨g, 0, none⟩) (ho.block g hl (fun hs => hs.elim h1 h2))
  have e1 := World.cell?_of_block (w := w) (w' := w') (a := ⟨g, 1, none⟩) (ho.block g hl (fun hs => hs.elim h1 h2))
  have e2 := World.cell?_of_block (w := w) (w' := w') (a := ⟨g, 2, none⟩) (ho.block g hl (fun hs => hs.elim h1 h2))
  exact ⟨e.trans h.1, e1.trans h.2.1, e2.trans h.2.2⟩

theorem kids_mono {ts : List (Int × Int × Int)} {f : Nat} {c : Int} {beg : List Int} {a b : Nat} (h : a ≤ b) : (kidsF ts f c beg a).length ≤ (kidsF ts f c beg b).length := by
  induction h with
  | refl => exact Nat.le_refl _
  | @step m _ ih =>
    refine Nat.le_trans ih ?_
    cases e : okT ts c beg m
    · rw [kidsF_no e]; exact Nat.le_refl _
    · rw [kidsF_yes e, List.length_append]; omega
theorem thing_bdW {ts : List (Int × Int × Int)} (hg : goodT ts = true) {k : Nat} {x y z : Int} (h : ts[k]? = some (x, y, z)) : (1 ≤ x ∧ x ≤ 1000) ∧ 0 ≤ y ∧ y ≤ 1000 := by
  have := thgB_true.1 ((goodT_at hg).2.2 _ (List.mem_of_getElem? h))
  exact ⟨this.1, this.2.1⟩

/-- What the visitor does. -/
def VisitG (p0 p1 p2 : Nat) (A : Option Addr) (n c : Nat) (ts : List (Int × Int × Int)) (lo hi P b0 : Nat) (R : Option Nat → List (List Int) → World → Prop) : Prop :=
  ∀ (ks : List Int) (L : List (List Int)) (v : Value) (w : World), stackB ts.length ks = true → L.length < 960800 → b0 ≤ w.heap.size → Seg w lo hi A (flat3 ts) → PileSt w P A n c v ks → R v.ownBlock L w →
    Calls Try.prog 38 #[.pointer (some ⟨P, 0, none⟩), .pointer (some ⟨p0, 0, none⟩), .pointer (some ⟨p1, 0, none⟩), .pointer (some ⟨p2, 0, none⟩)] w (RetWalk P b0 R A n c ks (L ++ [ks]) w)

set_option maxRecDepth 100000 in
set_option maxHeartbeats 4000000 in
theorem walkG_any (p0 p1 p2 : Nat) (A : Option Addr) (n c : Nat) (ts : List (Int × Int × Int)) (lo hi P b0 : Nat) (R : Option Nat → List (List Int) → World → Prop) (hn : ts.length = n) (hg : goodT ts = true) (hib : hi ≤ b0) (hbP : b0 ≤ P) (hR : Keeps P R)
    (hV : VisitG p0 p1 p2 A n c ts lo hi P b0 R) (f : Nat) :
    ∀ (c0 : Int) (ks : List Int) (L : List (List Int)) (v : Value) (w : World), f + ks.length = n → stackB ts.length ks = true → 0 ≤ c0 → c0 ≤ 7000 → L.length + (visF ts f c0 ks).length ≤ 960800 → b0 ≤ w.heap.size → Seg w lo hi A (flat3 ts) → PileSt w P A n c v ks → R v.ownBlock L w →
      Calls Try.prog 42 #[.pointer (some ⟨P, 0, none⟩), .int .i64 c0, .func (.func 38) #[] #[.pointer (some ⟨p0, 0, none⟩), .pointer (some ⟨p1, 0, none⟩), .pointer (some ⟨p2, 0, none⟩)]] w (RetWalk P b0 R A n c ks (L ++ visF ts f c0 ks) w) := by
  induction f using Nat.strongRecOn with
  | _ f ih =>
    intro c0 ks L v w hf hst h0 h1 hL hb0 hs hp hr
    have hn7 : n ≤ 7 := by rw [← hn]; exact (goodT_at hg).2.1
    have HVIS := Lib.hid (show visF ts f c0 ks = ks :: kidsF ts f c0 ks n by rw [visF_eq hst (by rw [hn]; exact hf), hn])
    have IH := Lib.hid ih
    have HN := Lib.hid hn
    have HG := Lib.hid hg
    have HF := Lib.hid hf
    have HST := Lib.hid hst
    have HV := Lib.hid hV
    have HKP := Lib.hid hR
    have HP := Lib.hid hp
    have HRR := Lib.hid hr
    have HS := Lib.hid hs
    have HLL := Lib.hid (show ∀ j, j ≤ n → (L ++ [ks]).length + (kidsF ts f c0 ks j).length ≤ 960800 from fun j hj => by
      have e1 : (L ++ [ks]).length = L.length + 1 := by simp
      have e2 : (kidsF ts f c0 ks j).length ≤ (kidsF ts f c0 ks n).length := kids_mono hj
      rw [HVIS.out, List.length_cons] at hL
      omega)
    have hL1 : L.length < 960800 := by rw [HVIS.out, List.length_cons] at hL; omega
    clear ih hn hg hf hst hV hR hp hr hL hs
    go_enter Try.func42, Try.ntmps42
    go_wp2_with fail
    refine (HV.out ks L v w HST.out hL1 hb0 HS.out HP.out HRR.out).mono ?_
    rintro e w1 ⟨rfl, ⟨v1, hp1, hr1⟩, hb1⟩
    obtain ⟨q0, q1, z0, z1⟩ := pile_cells hp1.1
    have HP1 := Lib.hid hp1
    have HR1 := Lib.hid hr1
    have HB1 := Lib.hid hb1
    have HS1 := Lib.hid (HS.out.below hb1 hib)
    clear hp1 hr1 hb1
    go_wp2
    go_loopw [16] (fun i wr => ∃ j : Nat, j ≤ n ∧ i = .int .i64 j ∧ (∃ v, PileSt wr P A n c v ks ∧ R v.ownBlock ((L ++ [ks]) ++ kidsF ts f c0 ks j) wr) ∧ Below b0 w wr) (fun i _ => n - (intOf i).toNat)
    case atStart => exact ⟨0, Nat.zero_le _, rfl, ⟨v1, HP1.out, by rw [kidsF_zero, List.append_nil]; exact HR1.out⟩, HB1.out⟩
    case round =>
      rename World => wo
      obtain ⟨j, hj, rfl, ⟨v2, hp2, hr2⟩, hb2⟩ := hrel
      clear q0 q1 z0 z1
      have hsz := hb2.size
      obtain ⟨B, d, rfl⟩ := ownsRow_form hp2.2
      obtain ⟨m, hm⟩ : ∃ m, ks.length = m := ⟨_, rfl⟩
      rw [hm] at hp2 hr2
      have HM := Lib.hid hm
      have HP2 := Lib.hid hp2
      have HR2 := Lib.hid hr2
      have HB2 := Lib.hid hb2
      have hm7 : m ≤ 7 := by have := HF.out; omega
      clear hm hb2
      by_cases hlt : j < n
      · obtain ⟨b, off, x, y, z, rfl, _, hbh, hx, hc0, hc1, hc2⟩ := (HS.out.below HB2.out hib).tri (k := j) (by rw [HN.out]; exact hlt)
        obtain ⟨hxb, hyb⟩ := thing_bdW HG.out hx
        have HX := Lib.hid (show wT ts (j : Int) = x by unfold wT; rw [thg_at hx])
        have HY := Lib.hid (show bT ts (j : Int) = y by unfold bT; rw [thg_at hx])
        have hbb := (Below.refl wo.heap.size wo).alloc (Nat.le_refl _) (.cells #[.int .i64 x, .int .i64 y, .int .i64 z] 41)
        obtain ⟨t0, t1, t2⟩ := id (ThgAt.of (new_at wo (.cells #[.int .i64 x, .int .i64 y, .int .i64 z] 41) rfl))
        have HAT := Lib.hid (ThgAt.of (new_at wo (.cells #[.int .i64 x, .int .i64 y, .int .i64 z] 41) rfl))
        have HP3 := Lib.hid (hp2.below hbb)
        have HR3 := Lib.hid (HKP.out.below _ _ _ _ hr2 hbb)
        have HB3 := Lib.hid (HB2.out.trans (hbb.mono (by omega)))
        have HSZ3 := Lib.hid (show (wo.alloc (.cells #[.int .i64 x, .int .i64 y, .int .i64 z] 41)).heap.size = wo.heap.size + 1 by simp)
        have HOL := Lib.hid (show ∀ g, (Value.slice B m d).ownBlock = some g → P + 1 ≤ g ∧ g < wo.heap.size from fun g hg => hp2.2.lt g hg)
        have hPlt := heap_lt hp2.1
        have hlj := HLL.out (j + 1) (by omega)
        clear hx hbb hp2 hr2
        by_cases hle : x ≤ c0
        · have hd1 : decide (x ≤ c0) = true := decide_eq_true hle
          cases hcan : canT n ks (j : Int)
          · have HC := Lib.hid hcan
            have HNO := Lib.hid (show kidsF ts f c0 ks (j + 1) = kidsF ts f c0 ks j from kids_same (by rw [HN.out]; exact hcan))
            clear hcan
            go_wp2_with fail
            refine (canTake_any P _ _ B n c m d ks (j : Int) _ _ _ HP3.out.1 HM.out (by omega) (ownsRow_own HP3.out.2).2.seg _ HC.out).mono ?_
            rintro e w4 ⟨rfl, rfl⟩
            go_wp2
            go_roundw
            case rel => exact ⟨j + 1, by omega, by go_num, ⟨_, HP3.out, by rw [HNO.out]; exact HR3.out⟩, HB3.out⟩
            case measure => simp [intOf]; omega
          · have HC := Lib.hid hcan
            have hcan' : canT ts.length ks (j : Int) = true := by rw [HN.out]; exact hcan
            have hok : okT ts c0 ks j = true := by unfold okT; rw [HX.out, hd1, hcan']; rfl
            have hf0 : 1 ≤ f := can_fuel HST.out (by rw [HN.out]; exact HF.out) hcan'
            have hmin1 : 0 ≤ min (c0 - x) y := by omega
            have hmin2 : min (c0 - x) y ≤ 7000 := by omega
            have HYEA := Lib.hid (show kidsF ts f c0 ks (j + 1) = kidsF ts f c0 ks j ++ visF ts (f - 1) (min (c0 - x) y) (ks ++ [(j : Int)]) by rw [kidsF_yes hok, HX.out, HY.out])
            have HSN := Lib.hid (stackB_snoc HST.out hcan')
            have HL2 := Lib.hid (show ((L ++ [ks]) ++ kidsF ts f c0 ks j).length + (visF ts (f - 1) (min (c0 - x) y) (ks ++ [(j : Int)])).length ≤ 960800 by
              have e1 := congrArg List.length HYEA.out
              rw [List.length_append] at e1
              have e2 : ((L ++ [ks]) ++ kidsF ts f c0 ks j).length = (L ++ [ks]).length + (kidsF ts f c0 ks j).length := List.length_append
              omega)
            have hw1 : IntKind.i64.wrap (c0 - x) = c0 - x := by rw [IntKind.wrap_i64]; omega
            clear hcan hcan' hok hlj
            go_wp2_with fail
            refine (canTake_any P _ _ B n c m d ks (j : Int) _ _ _ HP3.out.1 HM.out (by omega) (ownsRow_own HP3.out.2).2.seg _ HC.out).mono ?_
            rintro e w4 ⟨rfl, rfl⟩
            go_wp2_with fail
            refine (put_any P _ (P + 1) _ _ m ks (j : Int) _ HP3.out.1 (by have h := HP3.out.2; rw [HM.out] at h; exact h) HP3.out.far (by omega) (by have := HSZ3.out; omega)).mono ?_
            rintro e w4 ⟨rfl, v4, hp4, how4, _, ho4, hl4⟩
            have hat4 := thg_row HAT.out ho4 (by omega) (fun e => by have := (HOL.out _ e).2; omega)
            obtain ⟨t0', t1', t2'⟩ := id hat4
            have HP4 := Lib.hid (show PileSt w4 P (some ⟨b, off, none⟩) n c v4 (ks ++ [(j : Int)]) from ⟨hp4, by rw [List.length_append, HM.out]; exact how4⟩)
            have HR4 := Lib.hid (HKP.out.row _ v4.ownBlock _ _ _ HR3.out ho4 (hl4.imp id fun h => ⟨_, h, Nat.le_succ _⟩))
            have HB4 := Lib.hid (HB3.out.trans (ho4.below (by have := HSZ3.out; omega) (fun k hk => by rcases hk with h | h; omega; have := (HOL.out _ h).1; omega)))
            have hz4 := HB4.out.size
            have hsk4 := ho4.size
            clear hp4 how4 ho4 hl4 hat4 t0 t1 t2 hc0 hc1 hc2
            go_wp2_with fail
            refine (IH.out (f - 1) (by omega) (min (c0 - x) y) (ks ++ [(j : Int)]) ((L ++ [ks]) ++ kidsF ts f c0 ks j) v4 w4 (by rw [List.length_append]; have := HF.out; simp; omega) HSN.out hmin1 hmin2 HL2.out (by omega) (HS.out.below HB4.out hib) HP4.out HR4.out).mono ?_
            rintro e w5 ⟨rfl, ⟨v5, hp5, hr5⟩, hb5⟩
            have hl5 : (ks ++ [(j : Int)]).length = m + 1 := by rw [List.length_append, HM.out]; rfl
            obtain ⟨hp5a, hp5b⟩ := hp5
            rw [hl5] at hp5b
            obtain ⟨g5, d5, rfl, hg51, hg52, _, _⟩ := ownsRow_head (ys := ks ++ [(j : Int)]) hp5b (by omega)
            have HB5 := Lib.hid (HB4.out.trans (hb5.mono (Nat.le_refl _)))
            have HPA := Lib.hid hp5a
            have HPB := Lib.hid hp5b
            have HR5 := Lib.hid hr5
            have hz5 := hb5.size
            clear hp5a hp5b hr5 hb5 hl5 t0' t1' t2'
            go_wp2_with fail
            refine (takeTop_any P _ (P + 1) g5 m d5 _ ks (j : Int) _ HPA.out HPB.out (by omega) (by omega)).mono ?_
            rintro e w6 ⟨rfl, hp6, how6, ho6⟩
            have HP6 := Lib.hid (show PileSt w6 P (some ⟨b, off, none⟩) n c (.slice (some ⟨g5, 0, none⟩) m d5) ks from ⟨hp6, by rw [HM.out]; exact how6⟩)
            have HR6 := Lib.hid (HKP.out.row _ (Value.slice (some ⟨g5, 0, none⟩) m d5).ownBlock _ _ _ HR5.out (ho6.mono (fun k hk => .inl hk)) (.inl rfl))
            have HB6 := Lib.hid (HB5.out.trans (ho6.below (by omega) (fun k hk => by have hk' : k = P := hk; omega)))
            clear hp6 how6 ho6
            go_wp2
            go_roundw
            case rel => exact ⟨j + 1, by omega, by go_num, ⟨_, HP6.out, by rw [HYEA.out, ← List.append_assoc]; exact HR6.out⟩, HB6.out⟩
            case measure => simp [intOf]; omega
        · have hd1 : decide (x ≤ c0) = false := decide_eq_false hle
          have HNO := Lib.hid (show kidsF ts f c0 ks (j + 1) = kidsF ts f c0 ks j from kidsF_no (by unfold okT; rw [HX.out, hd1]; rfl))
          go_wp2
          go_roundw
          case rel => exact ⟨j + 1, by omega, by go_num, ⟨_, HP3.out, by rw [HNO.out]; exact HR3.out⟩, HB3.out⟩
          case measure => simp [intOf]; omega
      · obtain rfl : j = n := by omega
        go_wp2
        go_end0
        exact ⟨rfl, ⟨_, HP2.out, by rw [HVIS.out, List.append_cons]; exact HR2.out⟩, HB2.out⟩

set_option maxHeartbeats 1000000 in
theorem eachG_any (p0 p1 p2 : Nat) (A : Option Addr) (n c : Nat) (ts : List (Int × Int × Int)) (lo hi b0 : Nat) (R : Option Nat → List (List Int) → World → Prop) (w : World) (hn : ts.length = n) (hg : goodT ts = true) (hib : hi ≤ b0) (hb0 : b0 ≤ w.heap.size) (hR : Keeps w.heap.size R)
    (hV : VisitG p0 p1 p2 A n c ts lo hi w.heap.size b0 R) (hs : Seg w lo hi A (flat3 ts)) (hr : R none [] w) :
    Calls Try.prog 37 #[.slice A n c, .func (.func 38) #[] #[.pointer (some ⟨p0, 0, none⟩), .pointer (some ⟨p1, 0, none⟩), .pointer (some ⟨p2, 0, none⟩)]] w fun e w' => e = .returned (.tuple #[]) ∧ (∃ ob, R ob (visF ts n 7000 []) w') ∧ Below b0 w w' := by
  have hn7 : ts.length ≤ 7 := (goodT_at hg).2.1
  have hbb := (Below.refl w.heap.size w).alloc (Nat.le_refl _) (.cells #[.slice A n c, .slice none 0 0] 45)
  have HP := Lib.hid (show PileSt (w.alloc (.cells #[.slice A n c, .slice none 0 0] 45)) w.heap.size A n c (.slice none 0 0) [] from ⟨new_at w _ rfl, World.ownsRow_nil _ _ _ _⟩)
  have HR := Lib.hid (hR.below _ _ _ _ hr hbb)
  have HS := Lib.hid (hs.below hbb (by omega))
  have HB := Lib.hid (hbb.mono (B' := b0) hb0)
  have HKP := Lib.hid hR
  have HV := Lib.hid hV
  have HN := Lib.hid hn
  have HG := Lib.hid hg
  have HLEN := Lib.hid (visF_few hn7 (f := n) (by omega) 7000 [])
  clear hbb hR hV hn hg hs hr
  go_enter Try.func37, Try.ntmps37
  go_wp2_with fail
  refine (walkG_any p0 p1 p2 A n c ts lo hi w.heap.size b0 R HN.out HG.out hib hb0 HKP.out HV.out n 7000 [] [] _ _ (by simp) (stackB_nil _) (by omega) (by omega) (by simpa using HLEN.out) (by simp; omega) HS.out HP.out HR.out).mono ?_
  rintro e w1 ⟨rfl, ⟨v, hp, hr⟩, hb⟩
  have HB1 := Lib.hid (HB.out.trans hb)
  have HR1 := Lib.hid (show R v.ownBlock (visF ts n 7000 []) w1 from hr)
  clear hp hr hb
  go_wp2
  go_end0
  exact ⟨rfl, ⟨_, HR1.out⟩, HB1.out⟩

end Go.Proofs.Ytbgcacgcfldjnaa

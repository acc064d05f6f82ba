/-
  The specification's shelvings: its test, the books of each shelf.
  Conditions: the lists have at most 1048576 elements; at most twelve books.
-/
import Derived.Test.YtmdeijjlcebmaaaShelfM
import Derived.Deep.DeepCutAuto
namespace Go.Proofs.Ytmdeijjlcebmaaa
set_option linter.unusedVariables false
open Go.RowKit

theorem riseB_of {n : Nat} {fs : List Int} (h0 : fs[0]? = some 0) (h : ∀ k, k < fs.length → stepB n fs k = true) : riseB n fs = true := riseB_true.2 ⟨h0, h⟩
theorem riseB_no {n : Nat} {fs : List Int} {k : Nat} (hk : k < fs.length) (h : stepB n fs k = false) : riseB n fs = false := by
  by_cases h1 : riseB n fs = true
  · have := (riseB_true.1 h1).2 k hk
    rw [h] at this; cases this
  · simpa using h1

def RetRise (n : Nat) (fs : List Int) (w : World) (e : Ending) (w' : World) : Prop := e = .returned (.bool (riseB n fs)) ∧ w = w'

set_option maxHeartbeats 1000000 in
theorem l1Rising_ret (D : Option Addr) (n m d : Nat) (fs : List Int) (lo hi : Nat) (w : World) (hm : fs.length = m) (hm2 : m ≤ 1048576) (hs : Seg w lo hi D fs) (h0 : fs[0]? = some 0) (hn : n ≤ 12) :
    Calls Try.prog 58 #[.slice D m d, .int .i64 0, .int .i64 ((n : Int) - 1)] w (RetRise n fs w) := by
  have HM := Lib.hid hm
  have H0 := Lib.hid h0
  clear hm h0
  go_enter Try.func58, Try.ntmps58
  go_wp2
  go_loop [7, 8, 11] (fun _ _ i => ∃ k : Nat, k ≤ m ∧ i = .int .i64 k ∧ ∀ j, j < k → stepB n fs j = true) (fun _ _ i => m - (intOf i).toNat)
  case atStart => exact ⟨0, Nat.zero_le _, rfl, fun j hj => by omega⟩
  case round =>
    obtain ⟨k, hk, rfl, hj⟩ := hrel
    have HJ := Lib.hid hj
    clear hj
    by_cases hlt : k < m
    · obtain ⟨b, off, u, rfl, _, _, hux, huc⟩ := hs.at_ (k := k) (by rw [HM.out]; exact hlt)
      have hgd : fs.getD k 0 = u := by simp [List.getD, hux]
      have HU := Lib.hid hux
      clear hux
      by_cases hin : inB u 0 ((n : Int) - 1) = true
      case neg =>
        have hin' : inB u 0 ((n : Int) - 1) = false := by simpa using hin
        have hr : riseB n fs = false := by
          by_cases hst : stepB n fs k = true
          · exfalso
            have := step_ge (n := n) (first_getD H0.out) (k := k) (fun i hi => by
              by_cases e : i = k
              · subst e; exact hst
              · exact HJ.out i (by omega))
            rw [hgd] at this
            rw [inB_false] at hin'
            omega
          · exact riseB_no (k := k) (by rw [HM.out]; exact hlt) (by simpa using hst)
        have HR := Lib.hid hr
        clear hr hgd hin
        go_wp2_with fail
        refine (l1In_any _ _ _ false hin' _).mono ?_
        rintro e w' ⟨rfl, rfl⟩
        go_wp2
        go_ret
        exact ⟨by rw [HR.out]; rfl, rfl⟩
      have hun : u < (n : Int) := by have := (inB_true.1 hin).2; omega
      rcases Nat.eq_zero_or_pos k with hk0 | hkp
      · have hst : stepB n fs k = true := stepB_true.2 ⟨by rw [hgd]; exact hun, .inl hk0⟩
        have HS := Lib.hid hst
        subst hk0
        have huc0 : w.cell? ⟨b, off, none⟩ = some (.int .i64 u) := huc
        clear hst hgd hun huc
        go_wp2_with fail
        refine (l1In_any _ _ _ true hin _).mono ?_
        rintro e w' ⟨rfl, rfl⟩
        go_wp2
        go_round
        case rel => exact ⟨0 + 1, by omega, by go_num, fun i hi => by
          by_cases e : i = 0
          · subst e; exact HS.out
          · exact HJ.out i (by omega)⟩
        case measure => simp [intOf]; omega
      · obtain ⟨j, rfl⟩ : ∃ j, k = j + 1 := ⟨k - 1, by omega⟩
        obtain ⟨b', off', v, hA, _, _, hvx, hvc⟩ := hs.at_ (k := j) (by rw [HM.out]; omega)
        obtain ⟨rfl, rfl⟩ : b = b' ∧ off = off' := by injection hA with hA; injection hA with h1 h2; exact ⟨h1, h2⟩
        have hgv : fs.getD (j + 1 - 1) 0 = v := by simp [List.getD, hvx]
        clear hA hvx
        by_cases hvu : v < u
        case neg =>
          have hr : riseB n fs = false := riseB_no (k := j + 1) (by rw [HM.out]; exact hlt) (by rw [stepB, hgd, hgv, decide_eq_false hvu]; simp)
          have HR := Lib.hid hr
          clear hr hgd hgv hun
          go_wp2_with fail
          refine (l1In_any _ _ _ true hin _).mono ?_
          rintro e w' ⟨rfl, rfl⟩
          go_wp2
          go_ret
          exact ⟨by rw [HR.out]; rfl, rfl⟩
        have hst : stepB n fs (j + 1) = true := stepB_true.2 ⟨by rw [hgd]; exact hun, .inr (by rw [hgd, hgv]; exact hvu)⟩
        have HS := Lib.hid hst
        clear hst hgd hgv hun
        go_wp2_with fail
        refine (l1In_any _ _ _ true hin _).mono ?_
        rintro e w' ⟨rfl, rfl⟩
        go_wp2
        go_round
        case rel => exact ⟨j + 1 + 1, by omega, by go_num, fun i hi => by
          by_cases e : i = j + 1
          · subst e; exact HS.out
          · exact HJ.out i (by omega)⟩
        case measure => simp [intOf]; omega
    · obtain rfl : k = m := by omega
      have hr := riseB_of H0.out (fun i hi => HJ.out i (by rw [← HM.out]; exact hi))
      have HR := Lib.hid hr
      clear hr
      go_wp2
      go_ret
      exact ⟨by rw [HR.out]; rfl, rfl⟩

/-- The slices of all shelves' books. -/
def partV (b off n c : Nat) (qs : List Nat) (k : Nat) : Value := .slice (some ⟨b, off + qs.getD k 0 * 2, none⟩) (endOf n qs k - qs.getD k 0) (c - qs.getD k 0)
def partsV (b off n c : Nat) (qs : List Nat) (k : Nat) : List Value := (List.range k).map (partV b off n c qs)

theorem partsV_length (b off n c : Nat) (qs : List Nat) (k : Nat) : (partsV b off n c qs k).length = k := by simp [partsV]
theorem partsV_next (b off n c : Nat) (qs : List Nat) (k : Nat) : partsV b off n c qs (k + 1) = partsV b off n c qs k ++ [partV b off n c qs k] := by simp [partsV, List.range_succ]
theorem partsV_at (b off n c : Nat) (qs : List Nat) {k j : Nat} (h : j < k) : (partsV b off n c qs k)[j]? = some (partV b off n c qs j) := by simp [partsV, h]

theorem books_info : (Try.prog.info? 27).map (fun i => (i.zero, i.size, i.bytes)) = some (some (.slice none 0 0), 1, 24) := by kernel_rfl

/-- Its own new row of the slices. -/
def RetParts (b off n c : Nat) (qs : List Nat) (w : World) (e : Ending) (w' : World) : Prop :=
  ∃ A c', e = .returned (.slice A qs.length c') ∧ w'.ownsRow w.heap.size 27 1 (.slice A qs.length c') qs.length (partsV b off n c qs qs.length) ∧ Below w.heap.size w w'

set_option maxHeartbeats 1000000 in
theorem shParts_any (b off n c m d : Nat) (D : Option Addr) (fs : List Int) (lo hi : Nat) (w : World) (hc : n ≤ c) (hn : n ≤ 12) (hm : fs.length = m) (ho : Seg w lo hi D fs) (hB : hi ≤ w.heap.size) (hr : riseB n fs = true) :
    Calls Try.prog 39 #[.slice (some ⟨b, off, none⟩) n c, .slice D m d] w (RetParts b off n c (natsOf fs) w) := by
  obtain ⟨i0, hi0, hz0, hz1, hz2⟩ := info_parts books_info
  have hm12 : m ≤ 12 := by have := (rise_of hr).len; rw [natsOf_length] at this; omega
  have HM := Lib.hid hm
  have HR := Lib.hid hr
  have HRI := Lib.hid (rise_of hr)
  have HQ : Hid ((natsOf fs).length = m) := by rw [natsOf_length]; exact hm
  clear hm hr
  go_enter Try.func39, Try.ntmps39
  go_wp2
  go_loopw [5, 6, 7, 8, 11] (fun v _ _ _ i wr => ∃ k : Nat, k ≤ m ∧ i = .int .i64 k ∧ Below w.heap.size w wr ∧ wr.ownsRow w.heap.size 27 1 v k (partsV b off n c (natsOf fs) k)) (fun _ _ _ _ i _ => m - (intOf i).toNat)
  case atStart => exact ⟨0, Nat.zero_le _, rfl, Below.refl _ _, World.ownsRow_nil _ _ _ _⟩
  case round =>
    obtain ⟨k, hk, rfl, hb, hown⟩ := hrel
    have hsz := hb.size
    obtain ⟨A', c', rfl⟩ := ownsRow_form hown
    by_cases hlt : k < m
    · have hkq : k < (natsOf fs).length := by rw [HQ.out]; exact hlt
      have hee := HRI.out.ends hkq
      obtain ⟨bd, od, u, rfl, _, hbd, hux, huc⟩ := ho.at_ (k := k) (by rw [HM.out]; exact hlt)
      have hcu := (hb.cell (p := ⟨bd, od + k, none⟩) (by exact Nat.lt_of_lt_of_le hbd hB)).trans huc
      rw [rise_cell HR.out (by rw [HM.out]; exact hlt)] at hux
      have hnx := partsV_next b off n c (natsOf fs) k
      unfold partV at hnx
      obtain ⟨p, hp⟩ : ∃ p, (natsOf fs).getD k 0 = p := ⟨_, rfl⟩
      obtain ⟨r, hr⟩ : ∃ r, endOf n (natsOf fs) k = r := ⟨_, rfl⟩
      rw [hp, hr] at hnx hee
      rw [hp] at hux
      obtain rfl : (p : Int) = u := by injection hux
      have HNX := Lib.hid hnx
      clear hnx hux huc
      by_cases hl : k + 1 < m
      · obtain ⟨bd', od', u', hA, _, _, hux', huc'⟩ := ho.at_ (k := k + 1) (by rw [HM.out]; exact hl)
        obtain ⟨rfl, rfl⟩ : bd = bd' ∧ od = od' := by injection hA with hA; injection hA with h1 h2; exact ⟨h1, h2⟩
        have hcv := (hb.cell (p := ⟨bd, od + (k + 1), none⟩) (by exact Nat.lt_of_lt_of_le hbd hB)).trans huc'
        rw [rise_cell HR.out (by rw [HM.out]; exact hl)] at hux'
        obtain rfl : (r : Int) = u' := by
          injection hux' with hux'
          rw [← hux', ← hr]
          unfold endOf
          rw [if_pos (by rw [HQ.out]; exact hl)]
        clear hA hux' huc' hp hr
        have hown' := Lib.hid hown
        go_wp2_with (at_builtin; refine wpList_append_own _ rfl _ _ 55 rfl w.heap.size 27 i0 (.slice none 0 0) 1 24 Try.underlying55 hi0 hz0 hz1 hz2 rfl (by decide) _ _ _ rfl (hown'.out.alloc _) ⟨wr.heap.size, 0, none⟩ 1 1 [.slice (some ⟨b, off + p * 2, none⟩) (r - p) (c - p)] rfl rfl (one_new _ _ _) (by intro u hu; simp at hu; subst hu; rfl) (by unfold maxLen; omega) (by omega) (by simp; omega) ?_; intro v' w1 hown2 hgrow _)
        have hb1 : Below w.heap.size w w1 := ((hb.alloc hsz _).grown hgrow (by simp; omega) (fun g' hg' => by have := (hown'.out.lt g' hg').1; omega))
        go_roundw
        case rel => exact ⟨k + 1, by omega, by go_num, hb1, by rw [HNX.out]; exact hown2⟩
        case measure => simp [intOf]; omega
      · obtain rfl : r = n := by
          rw [← hr]
          unfold endOf
          rw [if_neg (by rw [HQ.out]; exact hl)]
        clear hp hr
        have hown' := Lib.hid hown
        go_wp2_with (at_builtin; refine wpList_append_own _ rfl _ _ 55 rfl w.heap.size 27 i0 (.slice none 0 0) 1 24 Try.underlying55 hi0 hz0 hz1 hz2 rfl (by decide) _ _ _ rfl (hown'.out.alloc _) ⟨wr.heap.size, 0, none⟩ 1 1 [.slice (some ⟨b, off + p * 2, none⟩) (r - p) (c - p)] rfl rfl (one_new _ _ _) (by intro u hu; simp at hu; subst hu; rfl) (by unfold maxLen; omega) (by omega) (by simp; omega) ?_; intro v' w1 hown2 hgrow _)
        have hb1 : Below w.heap.size w w1 := ((hb.alloc hsz _).grown hgrow (by simp; omega) (fun g' hg' => by have := (hown'.out.lt g' hg').1; omega))
        go_roundw
        case rel => exact ⟨k + 1, by omega, by go_num, hb1, by rw [HNX.out]; exact hown2⟩
        case measure => simp [intOf]; omega
    · obtain rfl : k = m := by omega
      go_wp2
      go_ret
      exact ⟨A', c', by rw [HQ.out]; rfl, by rw [HQ.out]; exact hown, hb⟩

/-- One of the slices is read. -/
theorem parts_cell {b off n c : Nat} {qs : List Nat} {w : World} {base k cap j : Nat} {A : Option Addr} (h : w.ownsRow base 27 1 (.slice A k cap) k (partsV b off n c qs k)) (hj : j < k) :
    ∃ g, A = some ⟨g, 0, none⟩ ∧ base ≤ g ∧ g < w.heap.size ∧ w.cell? ⟨g, j, none⟩ = some (.slice (some ⟨b, off + qs.getD j 0 * 2, none⟩) (endOf n qs j - qs.getD j 0) (c - qs.getD j 0)) := by
  have hlt := h.lt
  have hl := h.1
  obtain ⟨_, h0 | ⟨g, cap', cur, hv, hg, _⟩⟩ := id h
  · omega
  · injection hv with h1 h2 h3
    subst h1 h3
    have hown : (Value.slice (some ⟨g, 0, none⟩) k cap).ownBlock = some g := rfl
    refine ⟨g, rfl, hg, (hlt g hown).2, ?_⟩
    rw [h.cellAt j (by simp at hl; omega), partsV_at _ _ _ _ _ hj]
    rfl

/-- The books of one shelf. -/
theorem part_facts {n : Nat} {bs : List (Int × Int)} {qs : List Nat} {w : World} {lo hi b off k : Nat} (hn : bs.length = n) (hr : Rise n qs) (hg : partB bs) (hk : k < qs.length) (hs : Seg w lo hi (some ⟨b, off, none⟩) (flat bs)) :
    (partK bs qs k).length = endOf n qs k - qs.getD k 0 ∧ partB (partK bs qs k) ∧ Seg w lo hi (some ⟨b, off + qs.getD k 0 * 2, none⟩) (flat (partK bs qs k)) := by
  subst hn
  refine ⟨(hr.part_len hk).1, ⟨?_, fun x hx => hg.2 x (part_mem hx)⟩, hs.cut _ _⟩
  have := hr.ends hk
  have h1 := hg.1
  rw [(hr.part_len hk).1]
  omega

def RetFull (bs : List (Int × Int)) (width : Int) (fs : List Int) (w : World) (e : Ending) (w' : World) : Prop := e = .returned (.bool (shelfB bs width fs)) ∧ Below w.heap.size w w'

theorem shelfB_rise {bs : List (Int × Int)} {width : Int} {fs : List Int} (h : riseB bs.length fs = false) : shelfB bs width fs = false := by rw [shelfB, h, Bool.false_and]
theorem shelfB_full {bs : List (Int × Int)} {width : Int} {fs : List Int} (h : riseB bs.length fs = true) : shelfB bs width fs = fullB bs width (natsOf fs) := by rw [shelfB, h, Bool.true_and]
theorem riseB_first {n : Nat} {fs : List Int} (h : fs[0]? ≠ some 0) : riseB n fs = false := by
  by_cases h1 : riseB n fs = true
  · exact absurd (riseB_true.1 h1).1 h
  · simpa using h1

set_option maxHeartbeats 2000000 in
theorem shIs_any (A D : Option Addr) (n c m d : Nat) (bs : List (Int × Int)) (width : Int) (fs : List Int) (lo hi lo' hi' : Nat) (w : World) (hn : bs.length = n) (hc : n ≤ c) (hm : fs.length = m) (hm2 : m ≤ 1048576)
    (hs : Seg w lo hi A (flat bs)) (hB : hi ≤ w.heap.size) (ho : Seg w lo' hi' D fs) (hB' : hi' ≤ w.heap.size) (hg : goodK bs = true) :
    Calls Try.prog 33 #[.slice A n c, .int .i64 width, .slice D m d] w (RetFull bs width fs w) := by
  obtain ⟨h1, h12, hbk⟩ := goodK_at hg
  rw [hn] at h1 h12
  obtain ⟨b, off, _, _, rfl, _⟩ := hs.book (k := 0) (by omega)
  have HN := Lib.hid hn
  have HM := Lib.hid hm
  have HG := Lib.hid (goodK_part hg)
  clear hn hm hg hbk
  by_cases hz : m = 0
  · subst hz
    have hr : shelfB bs width fs = false := shelfB_rise (riseB_first (by rw [List.getElem?_eq_none (by rw [HM.out]; exact Nat.le_refl _)]; simp))
    have HR := Lib.hid hr
    clear hr
    go_enter Try.func33, Try.ntmps33
    go_wp2
    go_ret
    exact ⟨by rw [HR.out]; rfl, Below.refl _ _⟩
  obtain ⟨bd, od, u0, rfl, _, hbd, hx0, hc0⟩ := ho.at_ (k := 0) (by rw [HM.out]; omega)
  have hc0' : w.cell? ⟨bd, od, none⟩ = some (.int .i64 u0) := hc0
  have hmz : ((m : Int) == 0) = false := by rw [beq_eq_false_iff_ne]; omega
  clear hc0
  by_cases hu0 : u0 = 0
  case neg =>
    have hr : shelfB bs width fs = false := shelfB_rise (riseB_first (by rw [hx0]; simpa using hu0))
    have hub : (u0 == 0) = false := by rw [beq_eq_false_iff_ne]; exact hu0
    have HR := Lib.hid hr
    clear hr hx0
    go_enter Try.func33, Try.ntmps33
    go_wp2
    go_ret
    exact ⟨by rw [HR.out]; rfl, Below.refl _ _⟩
  subst hu0
  have HX0 := Lib.hid hx0
  have HO := Lib.hid ho
  clear hx0 ho
  obtain ⟨q, hq⟩ : ∃ q, riseB n fs = q := ⟨_, rfl⟩
  have hris := l1Rising_ret (some ⟨bd, od, none⟩) n m d fs lo' hi' w HM.out hm2 HO.out HX0.out h12
  unfold RetRise at hris
  rw [hq] at hris
  have HRIS := Lib.hid hris
  clear hris
  cases q
  case false =>
    have hr : shelfB bs width fs = false := shelfB_rise (by rw [HN.out]; exact hq)
    have HR := Lib.hid hr
    clear hr hq
    go_enter Try.func33, Try.ntmps33
    go_wp2_with fail
    refine HRIS.out.mono ?_
    rintro e w' ⟨rfl, rfl⟩
    go_wp2
    go_ret
    exact ⟨by rw [HR.out]; rfl, Below.refl _ _⟩
  case true =>
    have HRR := Lib.hid hq
    have HRI := Lib.hid (rise_of hq)
    have HQL : Hid ((natsOf fs).length = m) := by rw [natsOf_length]; exact HM.out
    have hr : shelfB bs width fs = fullB bs width (natsOf fs) := shelfB_full (by rw [HN.out]; exact hq)
    have HR := Lib.hid hr
    clear hr hq
    go_enter Try.func33, Try.ntmps33
    go_wp2_with fail
    refine HRIS.out.mono ?_
    rintro e w' ⟨rfl, rfl⟩
    go_wp2_with fail
    refine (shParts_any b off n c m d _ fs lo' hi' _ hc h12 HM.out HO.out hB' HRR.out).mono ?_
    rintro e w1 ⟨A1, c1, rfl, hown, hb1⟩
    rw [HQL.out] at hown ⊢
    go_wp2
    go_loopw [8, 9, 10, 11, 33] (fun _ _ _ _ i wr => ∃ k : Nat, k ≤ m ∧ i = .int .i64 k ∧ Below w1.heap.size w1 wr ∧ ∀ j, j < k → (ths (partK bs (natsOf fs) j)).sum ≤ width) (fun _ _ _ _ i _ => m - (intOf i).toNat)
    case atStart => exact ⟨0, Nat.zero_le _, rfl, Below.refl _ _, fun j hj => by omega⟩
    case round =>
      obtain ⟨k, hk, rfl, hb, hj⟩ := hrel
      have HJ := Lib.hid hj
      clear hj
      by_cases hlt : k < m
      · have hkq : k < (natsOf fs).length := by rw [HQL.out]; exact hlt
        obtain ⟨g, rfl, hg1, hg2, hcg⟩ := parts_cell hown hlt
        have hcw := (hb.cell (p := ⟨g, k, none⟩) (by exact hg2)).trans hcg
        have hbb := hb1.trans (hb.mono hb1.size)
        obtain ⟨p1, p2, p3⟩ := part_facts HN.out HRI.out HG.out hkq (hs.below hbb hB)
        have HS : Hid (∀ s, (ths (partK bs (natsOf fs) k)).sum = s → (ths (partK bs (natsOf fs) k)).sum = s) := fun _ h => h
        obtain ⟨pt, hpt⟩ : ∃ pt, partK bs (natsOf fs) k = pt := ⟨_, rfl⟩
        obtain ⟨p, hp⟩ : ∃ p, (natsOf fs).getD k 0 = p := ⟨_, rfl⟩
        obtain ⟨r, hr⟩ : ∃ r, endOf n (natsOf fs) k = r := ⟨_, rfl⟩
        rw [hp, hr] at hcw p1
        rw [hp] at p3
        rw [hpt] at p1 p2 p3
        have HPT := Lib.hid hpt
        have P1 := Lib.hid p1
        have P2 := Lib.hid p2
        have P3 := Lib.hid p3
        clear hp hr hpt p1 p2 p3 hcg HS
        go_wp2_with fail
        refine (shThick_any _ _ _ pt lo hi _ P1.out P3.out (Nat.le_trans hB hbb.size) P2.out).mono ?_
        rintro e w2 ⟨rfl, hb2⟩
        have hb2' := hb.trans (hb2.mono hb.size)
        obtain ⟨sm, hsm⟩ : ∃ sm, (ths pt).sum = sm := ⟨_, rfl⟩
        rw [hsm]
        have HSM := Lib.hid hsm
        clear hsm
        by_cases hle : sm ≤ width
        · go_wp2
          go_roundw
          case rel => exact ⟨k + 1, by omega, by go_num, hb2', fun j hj => by
            by_cases e : j = k
            · subst e; rw [HPT.out, HSM.out]; exact hle
            · exact HJ.out j (by omega)⟩
          case measure => simp [intOf]; omega
        · have hf : fullB bs width (natsOf fs) = false := fullB_not hkq (by rw [HPT.out, HSM.out]; omega)
          have HF := Lib.hid hf
          clear hf
          go_wp2
          go_ret
          exact ⟨by rw [HR.out, HF.out]; rfl, hb1.trans (hb2'.mono hb1.size)⟩
      · obtain rfl : k = m := by omega
        have hf := fullB_of (bs := bs) (qs := natsOf fs) (width := width) (fun j hj => HJ.out j (by rw [← HQL.out]; exact hj))
        have HF := Lib.hid hf
        clear hf
        go_wp2
        go_ret
        exact ⟨by rw [HR.out, HF.out]; rfl, hb1.trans (hb.mono hb1.size)⟩

theorem bothB_no {bs : List (Int × Int)} {width : Int} {fs : List Int} (h : askedK bs width = false) : bothB bs width fs = false := by rw [bothB, h, Bool.false_and]
theorem bothB_yes {bs : List (Int × Int)} {width : Int} {fs : List Int} (h : askedK bs width = true) : bothB bs width fs = shelfB bs width fs := by rw [bothB, h, Bool.true_and]
theorem asked_good {bs : List (Int × Int)} {width : Int} (h : askedK bs width = true) : goodK bs = true := by simp only [askedK, Bool.and_eq_true] at h; exact h.1

set_option maxHeartbeats 1000000 in
theorem shBoth_any (A D : Option Addr) (n c m d : Nat) (bs : List (Int × Int)) (width : Int) (fs : List Int) (lo hi lo' hi' : Nat) (w : World) (hn : bs.length = n) (hlen : n ≤ 1048576) (hc : n ≤ c) (hm : fs.length = m) (hm2 : m ≤ 1048576)
    (hs : Seg w lo hi A (flat bs)) (hB : hi ≤ w.heap.size) (ho : Seg w lo' hi' D fs) (hB' : hi' ≤ w.heap.size) (p : Bool) (hp : bothB bs width fs = p) :
    Calls Try.prog 38 #[.slice A n c, .int .i64 width, .slice D m d] w fun e w' => e = .returned (.bool p) ∧ Below w.heap.size w w' := by
  have HN := Lib.hid hn
  have HM := Lib.hid hm
  obtain ⟨q, hq⟩ : ∃ q, askedK bs width = q := ⟨_, rfl⟩
  have HQ := Lib.hid hq
  cases q
  · obtain rfl : p = false := by rw [← hp, bothB_no hq]
    clear hq hp hn hm
    go_enter Try.func38, Try.ntmps38
    go_wp2_with fail
    refine (shAsked_any _ _ _ bs width lo hi _ HN.out hlen hs hB _ HQ.out).mono ?_
    rintro e w1 ⟨rfl, hb1⟩
    go_wp2
    go_ret
    exact ⟨rfl, hb1⟩
  · have h2 : shelfB bs width fs = p := by rw [← hp, bothB_yes hq]
    have H2 := Lib.hid h2
    clear hq hp hn hm h2
    go_enter Try.func38, Try.ntmps38
    go_wp2_with fail
    refine (shAsked_any _ _ _ bs width lo hi _ HN.out hlen hs hB _ HQ.out).mono ?_
    rintro e w1 ⟨rfl, hb1⟩
    go_wp2_with fail
    refine (shIs_any _ _ _ _ _ _ bs width fs lo hi lo' hi' _ HN.out hc HM.out hm2 (hs.below hb1 hB) (Nat.le_trans hB hb1.size) (ho.below hb1 hB') (Nat.le_trans hB' hb1.size) (asked_good HQ.out)).mono ?_
    rintro e w2 ⟨rfl, hb2⟩
    rw [H2.out]
    cases p
    all_goals
      go_wp2
      go_ret
      exact ⟨rfl, hb1.trans (hb2.mono hb1.size)⟩
end Go.Proofs.Ytmdeijjlcebmaaa

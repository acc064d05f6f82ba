/-
  The written program's rules: the box that each of them names for a thing.
  Conditions: at most nine things, each from 1 to 100; the room at most 1000.
-/
import Derived.Test.YtjnfaikcimlkdaaPk
namespace Go.Proofs.Ytjnfaikcimlkdaa
set_option linter.unusedVariables false
open Go.RowKit

/-- Box 'b', which may be the next one. -/
def cart (ls : List Int) (b : Nat) : Value := .agg #[.int .i64 (b : Int), .int .i64 (ls.getD b 0)]

theorem cart_at {ls : List Int} {b : Nat} {l : Int} (h : ls[b]? = some l) : cart ls b = .agg #[.int .i64 (b : Int), .int .i64 l] := by simp [cart, List.getD, h]
theorem cart_new (ls : List Int) : cart ls ls.length = .agg #[.int .i64 (ls.length : Int), .int .i64 0] := by simp [cart, List.getD]

/-- It names box 'b', and nothing that was there is written. -/
def Named (ls : List Int) (b : Nat) (w : World) (e : Ending) (w' : World) : Prop := e = .returned (cart ls b) ∧ Below w.heap.size w w'

section
variable (P T Bo Bp cap : Nat) (room : Int) (ls pl : List Int) (rest : List Value)

set_option maxHeartbeats 1000000 in
theorem lastFitting_any (size : Int) (w : World) (h : Pk w P T Bo Bp cap room ls pl rest) (hl : Loads room ls) (hr : 1 ≤ room ∧ room ≤ 1000) (hs : 1 ≤ size ∧ size ≤ 100) :
    Calls Try.prog 51 #[.pointer (some ⟨P, 0, none⟩), .int .i64 size] w (Named ls (pick 110 room size ls) w) := by
  obtain ⟨f0, f1, f2, f3, f4⟩ := h.facts
  obtain ⟨hP, hBo, hBp⟩ := h.lt
  have h1 := h.len1
  have h9 := h.cap9
  by_cases hz : ls.length = 0
  · have hnil : ls = [] := List.eq_nil_of_length_eq_zero hz
    subst hnil
    clear h
    go_enter Try.func51, Try.ntmps51
    go_wp2
    exact bodyPost_ret (v := cart [] 0) (by simp [results, Try.results51, go_sem, cart]) rfl ⟨rfl, ((Below.refl _ _).alloc (Nat.le_refl _) _)⟩
  · obtain ⟨k, hk⟩ : ∃ k, k + 1 = ls.length := ⟨ls.length - 1, by omega⟩
    have hlk : ls[k]? = some ls[k] := List.getElem?_eq_getElem (by omega)
    obtain ⟨l, hle⟩ : ∃ l, l = ls[k] := ⟨_, rfl⟩
    rw [← hle] at hlk
    clear hle hz
    have hlb := hl.at_ hlk
    obtain ⟨g1, g2⟩ := h.box hlk
    have hpk := pick_last (room := room) (size := size) hk hlk
    have hca := cart_at hlk
    have hcn := cart_new ls
    obtain ⟨n, hn⟩ : ∃ n : Nat, n = ls.length := ⟨_, rfl⟩
    rw [← hn] at f0 f3 h1 hk hpk hcn
    have hH := Lib.hid h
    have hLn : (n : Int) - 1 = (k : Int) := by omega
    have HLn := Lib.hid hLn
    obtain rfl : n = k + 1 := by omega
    by_cases hf : l + size ≤ room
    · rw [if_pos hf] at hpk
      have hd : decide (l + size ≤ room) = true := decide_eq_true hf
      have HP := Lib.hid hpk
      have HC := Lib.hid hca
      have HN := Lib.hid hn.symm
      have HLK := Lib.hid hlk
      clear hpk hca hcn hlk h hk hLn hn
      go_enter Try.func51, Try.ntmps51
      go_wp2_with (go_at_call 68; refine (fits_any P T Bo Bp cap room ls pl rest _ _ _ _ (hH.out.belowAll ((Below.refl _ _).alloc (Nat.le_refl _) _)) (by omega) (by omega) true hd).mono ?_; rintro e w1 ⟨rfl, hb1⟩; have hk1 := (hH.out.belowAll ((Below.refl _ _).alloc (Nat.le_refl _) _)).belowAll hb1; obtain ⟨p0, p1, p2, p3, p4⟩ := hk1.facts; rw [HN.out] at p0 p3; obtain ⟨q1, q2⟩ := hk1.box HLK.out; have hnew := new_cells hb1; have r0 := cell_of hnew 0; have r1 := cell_of hnew 1; have z0 := frozen_of hnew 0; have z1 := frozen_of hnew 1; simp at r0 r1)
      exact bodyPost_ret (v := .agg #[.int .i64 (k : Int), .int .i64 l]) (by simp [results, Try.results51, go_sem, r0, r1]) rfl ⟨by rw [HP.out, HC.out], ((((Below.refl _ _).alloc (Nat.le_refl _) _).trans (hb1.mono (by simp))).setCell (p := ⟨w.heap.size, 0, none⟩) (Nat.le_refl _) _).setCell (p := ⟨w.heap.size, 1, none⟩) (Nat.le_refl _) _⟩
    · rw [if_neg hf] at hpk
      have hd : decide (l + size ≤ room) = false := decide_eq_false hf
      have HP := Lib.hid hpk
      have HC := Lib.hid hcn
      have HN := Lib.hid hn.symm
      have HLK := Lib.hid hlk
      clear hpk hca hcn hlk h hk hLn hn
      go_enter Try.func51, Try.ntmps51
      go_wp2_with (go_at_call 68; refine (fits_any P T Bo Bp cap room ls pl rest _ _ _ _ (hH.out.belowAll ((Below.refl _ _).alloc (Nat.le_refl _) _)) (by omega) (by omega) false hd).mono ?_; rintro e w1 ⟨rfl, hb1⟩; have hk1 := (hH.out.belowAll ((Below.refl _ _).alloc (Nat.le_refl _) _)).belowAll hb1; obtain ⟨p0, p1, p2, p3, p4⟩ := hk1.facts; rw [HN.out] at p0 p3; obtain ⟨q1, q2⟩ := hk1.box HLK.out; have hnew := new_cells hb1; have r0 := cell_of hnew 0; have r1 := cell_of hnew 1; have z0 := frozen_of hnew 0; have z1 := frozen_of hnew 1; simp at r0 r1)
      exact bodyPost_ret (v := .agg #[.int .i64 ((k : Int) + 1), .int .i64 0]) (by simp [results, Try.results51, go_sem, r0, r1]) rfl ⟨by rw [HP.out, HC.out]; rfl, ((((Below.refl _ _).alloc (Nat.le_refl _) _).trans (hb1.mono (by simp))).setCell (p := ⟨w.heap.size, 0, none⟩) (Nat.le_refl _) _).setCell (p := ⟨w.heap.size, 1, none⟩) (Nat.le_refl _) _⟩

set_option maxHeartbeats 1000000 in
theorem firstFitting_any (size : Int) (w : World) (h : Pk w P T Bo Bp cap room ls pl rest) (hl : Loads room ls) (hr : 1 ≤ room ∧ room ≤ 1000) (hs : 1 ≤ size ∧ size ≤ 100) :
    Calls Try.prog 52 #[.pointer (some ⟨P, 0, none⟩), .int .i64 size] w (Named ls (pick 102 room size ls) w) := by
  obtain ⟨f0, f1, f2, f3, f4⟩ := h.facts
  obtain ⟨hP, hBo, hBp⟩ := h.lt
  have h1 := h.len1
  have h9 := h.cap9
  have H := Lib.hid h
  clear h
  go_enter Try.func52, Try.ntmps52
  go_wp2
  clear f0 f1 f2 f3 f4
  go_loopw [6, 12] (fun _ i wr => ∃ k : Nat, k ≤ ls.length ∧ i = .int .i64 k ∧ (∀ (j : Nat) l, j < k → ls[j]? = some l → room < l + size) ∧ Below w.heap.size w wr ∧ ∃ x y, wr.heap[w.heap.size]? = some (.cells #[x, y] 47 (0, 0))) (fun _ i _ => ls.length - (intOf i).toNat)
  case atStart => exact ⟨0, Nat.zero_le _, rfl, fun j l hj => by omega, (Below.refl _ _).alloc (Nat.le_refl _) _, _, _, heap_alloc_new w _⟩
  case round =>
    obtain ⟨k, hk, rfl, hno, hb, x, y, hnew⟩ := hrel
    have hpk := H.out.belowAll hb
    have hwr := heap_lt hnew
    have r0 := cell_of hnew 0
    have r1 := cell_of hnew 1
    have z0 := frozen_of hnew 0
    have z1 := frozen_of hnew 1
    simp at r0 r1
    obtain ⟨f0, f1, f2, f3, f4⟩ := hpk.facts
    have HPK := Lib.hid hpk
    have HNO := Lib.hid hno
    have HNEW := Lib.hid hnew
    clear hpk hno hnew
    by_cases hlt : k < ls.length
    · obtain ⟨l, hle⟩ : ∃ l, l = ls[k] := ⟨_, rfl⟩
      have hlk : ls[k]? = some l := by rw [hle]; exact List.getElem?_eq_getElem hlt
      clear hle
      have hlb := hl.at_ hlk
      obtain ⟨g1, g2⟩ := HPK.out.box hlk
      have HLK := Lib.hid hlk
      clear hlk
      by_cases hf : l + size ≤ room
      · have hd : decide (l + size ≤ room) = true := decide_eq_true hf
        go_wp2_with (go_at_call 68; refine (fits_any P T Bo Bp cap room ls pl rest _ _ _ _ (HPK.out.belowAll ((Below.refl _ _).alloc (Nat.le_refl _) _)) (by omega) (by omega) true hd).mono ?_; rintro e w1 ⟨rfl, hb1⟩; obtain ⟨hbw, hres, hvar, hszw⟩ := after_call hb HNEW.out hb1; have v0 := cell_of hvar 0; have v1 := cell_of hvar 1; have y0 := cell_of hres 0; have y1 := cell_of hres 1; have x0 := frozen_of hres 0; have x1 := frozen_of hres 1; simp at v0 v1 y0 y1; have HRES := Lib.hid hres; clear hres hvar)
        exact bodyPost_ret (v := .agg #[.int .i64 (k : Int), .int .i64 l]) (by simp [results, Try.results52, go_sem, y0, y1]) rfl ⟨by rw [pick_first HNO.out HLK.out hf, cart_at HLK.out], (hbw.setCell (p := ⟨w.heap.size, 0, none⟩) (Nat.le_refl _) _).setCell (p := ⟨w.heap.size, 1, none⟩) (Nat.le_refl _) _⟩
      · have hd : decide (l + size ≤ room) = false := decide_eq_false hf
        go_wp2_with (go_at_call 68; refine (fits_any P T Bo Bp cap room ls pl rest _ _ _ _ (HPK.out.belowAll ((Below.refl _ _).alloc (Nat.le_refl _) _)) (by omega) (by omega) false hd).mono ?_; rintro e w1 ⟨rfl, hb1⟩; obtain ⟨hbw, hres, hvar, hszw⟩ := after_call hb HNEW.out hb1; have v0 := cell_of hvar 0; have v1 := cell_of hvar 1; have y0 := cell_of hres 0; have y1 := cell_of hres 1; have x0 := frozen_of hres 0; have x1 := frozen_of hres 1; simp at v0 v1 y0 y1; have HRES := Lib.hid hres; clear hres hvar)
        go_roundw
        case rel =>
          refine ⟨k + 1, by omega, by go_num, fun j l' hj hl' => ?_, hbw, _, _, HRES.out⟩
          by_cases e : j = k
          · subst e; rw [HLK.out] at hl'; injection hl' with hl'; omega
          · exact HNO.out j l' (by omega) hl'
        case measure => simp [intOf]; omega
    · obtain rfl : k = ls.length := by omega
      go_wp2
      exact bodyPost_ret (v := .agg #[.int .i64 (ls.length : Int), .int .i64 0]) (by simp [results, Try.results52, go_sem, r0, r1]) rfl ⟨by rw [pick_first_none HNO.out, cart_new], (hb.setCell (p := ⟨w.heap.size, 0, none⟩) (Nat.le_refl _) _).setCell (p := ⟨w.heap.size, 1, none⟩) (Nat.le_refl _) _⟩

/-- The block of the best box so far. -/
def bestCells (rule room size : Int) (ls : List Int) (k : Nat) : Obj := .cells #[.int .i64 (bestAt rule room size ls k : Int), .int .i64 (ls.getD (bestAt rule room size ls k) 0)] 47 (0, 0)

theorem bestCells_of {rule room size : Int} {ls : List Int} {k bk : Nat} {lb : Int} (h : bestAt rule room size ls k = bk) (hl : lb = ls.getD bk 0) :
    bestCells rule room size ls k = .cells #[.int .i64 (bk : Int), .int .i64 lb] 47 (0, 0) := by rw [bestCells, h, hl]

set_option maxHeartbeats 1000000 in
theorem fullestFitting_any (size : Int) (w : World) (h : Pk w P T Bo Bp cap room ls pl rest) (hl : Loads room ls) (hr : 1 ≤ room ∧ room ≤ 1000) (hs : 1 ≤ size ∧ size ≤ 100) :
    Calls Try.prog 53 #[.pointer (some ⟨P, 0, none⟩), .int .i64 size] w (Named ls (pick 98 room size ls) w) := by
  obtain ⟨f0, f1, f2, f3, f4⟩ := h.facts
  obtain ⟨hP, hBo, hBp⟩ := h.lt
  have h1 := h.len1
  have h9 := h.cap9
  have H := Lib.hid h
  clear h
  go_enter Try.func53, Try.ntmps53
  go_wp2
  clear f0 f1 f2 f3 f4
  go_loopw [7, 17] (fun _ i wr => ∃ k : Nat, k ≤ ls.length ∧ i = .int .i64 k ∧ Below w.heap.size w wr ∧ (∃ x y, wr.heap[w.heap.size]? = some (.cells #[x, y] 47 (0, 0))) ∧
      wr.heap[w.heap.size + 1]? = some (bestCells 98 room size ls k)) (fun _ i _ => ls.length - (intOf i).toNat)
  case atStart =>
    refine ⟨0, Nat.zero_le _, rfl, ((Below.refl _ _).alloc (Nat.le_refl _) _).alloc (by simp) _, ⟨_, _, (alloc_old _ (by simp) _).trans (heap_alloc_new w _)⟩, ?_⟩
    rw [new_at _ _ (by simp)]
    simp [bestCells, bestAt_zero, List.getD]
  case round =>
    obtain ⟨k, hk, rfl, hb, ⟨x, y, hnew⟩, hbest⟩ := hrel
    have hpk := H.out.belowAll hb
    have hwr := heap_lt hbest
    have r0 := cell_of hnew 0
    have r1 := cell_of hnew 1
    have z0 := frozen_of hnew 0
    have z1 := frozen_of hnew 1
    have hbk := bestAt_le 98 room size ls k hk
    obtain ⟨bk, hbkE⟩ : ∃ bk, bk = bestAt 98 room size ls k := ⟨_, rfl⟩
    obtain ⟨lb, hlbE⟩ : ∃ lb, lb = ls.getD bk 0 := ⟨_, rfl⟩
    have hbest' : wr.heap[w.heap.size + 1]? = some (.cells #[.int .i64 (bk : Int), .int .i64 lb] 47 (0, 0)) := by rw [hbest, bestCells, ← hbkE, ← hlbE]
    have b0 := cell_of hbest' 0
    have b1 := cell_of hbest' 1
    have s0 := frozen_of hbest' 0
    have s1 := frozen_of hbest' 1
    simp at r0 r1 b0 b1
    obtain ⟨f0, f1, f2, f3, f4⟩ := hpk.facts
    have HPK := Lib.hid hpk
    have HNEW := Lib.hid hnew
    have HBES := Lib.hid hbest'
    have HBK := Lib.hid hbkE
    have HLB := Lib.hid hlbE
    clear hpk hnew hbest hbest' hbkE hlbE hbk
    by_cases hlt : k < ls.length
    · obtain ⟨l, hle⟩ : ∃ l, l = ls[k] := ⟨_, rfl⟩
      have hlk : ls[k]? = some l := by rw [hle]; exact List.getElem?_eq_getElem hlt
      clear hle
      have hlb := hl.at_ hlk
      obtain ⟨g1, g2⟩ := HPK.out.box hlk
      have HLK := Lib.hid hlk
      clear hlk
      by_cases hf : l + size ≤ room
      · have hd : decide (l + size ≤ room) = true := decide_eq_true hf
        by_cases hg : lb < l
        · go_wp2_with (go_at_call 68; refine (fits_any P T Bo Bp cap room ls pl rest _ _ _ _ (HPK.out.belowAll ((Below.refl _ _).alloc (Nat.le_refl _) _)) (by omega) (by omega) true hd).mono ?_; rintro e w1 ⟨rfl, hb1⟩; obtain ⟨hbw, hres, hbes, hvar, hszw⟩ := after_call2 hb HNEW.out HBES.out hb1; have v0 := cell_of hvar 0; have v1 := cell_of hvar 1; have y0 := cell_of hres 0; have y1 := cell_of hres 1; have x0 := frozen_of hres 0; have x1 := frozen_of hres 1; have u0 := cell_of hbes 0; have u1 := cell_of hbes 1; have t0 := frozen_of hbes 0; have t1 := frozen_of hbes 1; simp at v0 v1 y0 y1 u0 u1; have HRES := Lib.hid hres; have HBE := Lib.hid hbes; clear hres hvar hbes)
          have e := bestAt_set (rule := 98) (room := room) (size := size) HLK.out (by omega) hf (Or.inr (Or.inl ⟨rfl, by rw [← HBK.out, ← HLB.out]; exact hg⟩))
          have E := Lib.hid e
          clear e
          go_roundw
          case rel =>
            refine ⟨k + 1, by omega, by go_num, (hbw.setCell (p := ⟨w.heap.size + 1, 0, none⟩) (by show _ ≤ w.heap.size + 1; omega) _).setCell (p := ⟨w.heap.size + 1, 1, none⟩) (by show _ ≤ w.heap.size + 1; omega) _, ⟨_, _, (set_far _ (by show w.heap.size ≠ w.heap.size + 1; omega) _).trans ((set_far _ (by show w.heap.size ≠ w.heap.size + 1; omega) _).trans HRES.out)⟩, ?_⟩
            rw [set_self (set_self HBE.out _ _) _ _, bestCells_of E.out (lb := l) (by simp [List.getD, HLK.out])]
            simp
          case measure => simp [intOf]; omega
        · have hg' : decide (lb < l) = false := decide_eq_false hg
          go_wp2_with (go_at_call 68; refine (fits_any P T Bo Bp cap room ls pl rest _ _ _ _ (HPK.out.belowAll ((Below.refl _ _).alloc (Nat.le_refl _) _)) (by omega) (by omega) true hd).mono ?_; rintro e w1 ⟨rfl, hb1⟩; obtain ⟨hbw, hres, hbes, hvar, hszw⟩ := after_call2 hb HNEW.out HBES.out hb1; have v0 := cell_of hvar 0; have v1 := cell_of hvar 1; have y0 := cell_of hres 0; have y1 := cell_of hres 1; have x0 := frozen_of hres 0; have x1 := frozen_of hres 1; have u0 := cell_of hbes 0; have u1 := cell_of hbes 1; have t0 := frozen_of hbes 0; have t1 := frozen_of hbes 1; simp at v0 v1 y0 y1 u0 u1; have HRES := Lib.hid hres; have HBE := Lib.hid hbes; clear hres hvar hbes)
          have hnl : bk ≠ ls.length := by
            intro e
            have := HLB.out
            rw [e] at this
            simp [List.getD] at this
            omega
          have e := bestAt_keep (rule := 98) (room := room) (size := size) HLK.out (by rw [← HBK.out]; exact hnl) (by rw [← HBK.out, ← HLB.out]; rintro (⟨_, h⟩ | ⟨h, _⟩) <;> omega)
          have E := Lib.hid (e.trans HBK.out.symm)
          clear e
          go_roundw
          case rel => exact ⟨k + 1, by omega, by go_num, hbw, ⟨_, _, HRES.out⟩, by rw [bestCells_of E.out HLB.out]; exact HBE.out⟩
          case measure => simp [intOf]; omega
      · have hd : decide (l + size ≤ room) = false := decide_eq_false hf
        go_wp2_with (go_at_call 68; refine (fits_any P T Bo Bp cap room ls pl rest _ _ _ _ (HPK.out.belowAll ((Below.refl _ _).alloc (Nat.le_refl _) _)) (by omega) (by omega) false hd).mono ?_; rintro e w1 ⟨rfl, hb1⟩; obtain ⟨hbw, hres, hbes, hvar, hszw⟩ := after_call2 hb HNEW.out HBES.out hb1; have v0 := cell_of hvar 0; have v1 := cell_of hvar 1; have y0 := cell_of hres 0; have y1 := cell_of hres 1; have x0 := frozen_of hres 0; have x1 := frozen_of hres 1; have u0 := cell_of hbes 0; have u1 := cell_of hbes 1; have t0 := frozen_of hbes 0; have t1 := frozen_of hbes 1; simp at v0 v1 y0 y1 u0 u1; have HRES := Lib.hid hres; have HBE := Lib.hid hbes; clear hres hvar hbes)
        have e := bestAt_skip (rule := 98) (room := room) (size := size) HLK.out (by omega)
        have E := Lib.hid (e.trans HBK.out.symm)
        clear e
        go_roundw
        case rel => exact ⟨k + 1, by omega, by go_num, hbw, ⟨_, _, HRES.out⟩, by rw [bestCells_of E.out HLB.out]; exact HBE.out⟩
        case measure => simp [intOf]; omega
    · obtain rfl : k = ls.length := by omega
      go_wp2
      exact bodyPost_ret (v := .agg #[.int .i64 (bk : Int), .int .i64 lb]) (by simp [results, Try.results53, go_sem, r0, r1]) rfl ⟨by rw [← bestAt_all, ← HBK.out, cart, ← HLB.out], (hb.setCell (p := ⟨w.heap.size, 0, none⟩) (Nat.le_refl _) _).setCell (p := ⟨w.heap.size, 1, none⟩) (Nat.le_refl _) _⟩
end
end Go.Proofs.Ytjnfaikcimlkdaa

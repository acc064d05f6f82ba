/-
  The written program's rule of the first box that has room (for a seat that has no other rule).
  Conditions: at most nine things, each from 1 to 100; the room at most 1000.
-/
import Derived.Test.YtoheoojpmndhoaaPk
namespace Go.Proofs.Ytoheoojpmndhoaa
set_option linter.unusedVariables false
open Go.RowKit

section
variable (P T Bo Bp cap : Nat) (room : Int) (ls pl : List Int) (rest : List Value)

set_option maxHeartbeats 1000000 in
theorem firstFitting_any (size : Int) (w : World) (h : Pk w P T Bo Bp cap room ls pl rest) (hl : Loads room ls) (hr : 1 ≤ room ∧ room ≤ 1000) (hs : 1 ≤ size ∧ size ≤ 100) :
    Calls Try.prog 123 #[.pointer (some ⟨P, 0, none⟩), .int .i64 size] w (Named ls (pick 102 room size ls) w) := by
  obtain ⟨f0, f1, f2, f3, f4⟩ := h.facts
  obtain ⟨hP, hBo, hBp⟩ := h.lt
  have h1 := h.len1
  have h9 := h.cap9
  have H := Lib.hid h
  clear h
  go_enter Try.func123, Try.ntmps123
  go_wp2
  clear f0 f1 f2 f3 f4
  go_loopw [6, 12] (fun _ i wr => ∃ k : Nat, k ≤ ls.length ∧ i = .int .i64 k ∧ (∀ (j : Nat) l, j < k → ls[j]? = some l → room < l + size) ∧ Below w.heap.size w wr ∧ ∃ x y, wr.heap[w.heap.size]? = some (.cells #[x, y] 105 (0, 0))) (fun _ i _ => ls.length - (intOf i).toNat)
  case atStart => exact ⟨0, Nat.zero_le _, rfl, fun j l hj => by omega, (Below.refl _ _).alloc (Nat.le_refl _) _, _, _, heap_alloc_new w _⟩
  case round =>
    obtain ⟨k, hk, rfl, hno, hb, x, y, hnew⟩ := hrel
    have hpk := H.out.belowAll hb
    have hwr := heap_lt hnew
    have r0 := cell_of hnew 0
    have r1 := cell_of hnew 1
    have z0 := frozen_of hnew 0
    have z1 := frozen_of hnew 1
    simp at r0 r1
    obtain ⟨f0, f1, f2, f3, f4⟩ := hpk.facts
    have HPK := Lib.hid hpk
    have HNO := Lib.hid hno
    have HNEW := Lib.hid hnew
    clear hpk hno hnew
    by_cases hlt : k < ls.length
    · obtain ⟨l, hle⟩ : ∃ l, l = ls[k] := ⟨_, rfl⟩
      have hlk : ls[k]? = some l := by rw [hle]; exact List.getElem?_eq_getElem hlt
      clear hle
      have hlb := hl.at_ hlk
      obtain ⟨g1, g2⟩ := HPK.out.box hlk
      have HLK := Lib.hid hlk
      clear hlk
      by_cases hf : l + size ≤ room
      · have hd : decide (l + size ≤ room) = true := decide_eq_true hf
        go_wp2_with (go_at_call 130; refine (fits_any P T Bo Bp cap room ls pl rest _ _ _ _ (HPK.out.belowAll ((Below.refl _ _).alloc (Nat.le_refl _) _)) (by omega) (by omega) true hd).mono ?_; rintro e w1 ⟨rfl, hb1⟩; obtain ⟨hbw, hres, hvar, hszw⟩ := after_call hb HNEW.out hb1; have v0 := cell_of hvar 0; have v1 := cell_of hvar 1; have y0 := cell_of hres 0; have y1 := cell_of hres 1; have x0 := frozen_of hres 0; have x1 := frozen_of hres 1; simp at v0 v1 y0 y1; have HRES := Lib.hid hres; clear hres hvar)
        exact bodyPost_ret (v := .agg #[.int .i64 (k : Int), .int .i64 l]) (by simp [results, Try.results123, go_sem, y0, y1]) rfl ⟨by rw [pick_first HNO.out HLK.out hf, cart_at HLK.out], (hbw.setCell (p := ⟨w.heap.size, 0, none⟩) (Nat.le_refl _) _).setCell (p := ⟨w.heap.size, 1, none⟩) (Nat.le_refl _) _⟩
      · have hd : decide (l + size ≤ room) = false := decide_eq_false hf
        go_wp2_with (go_at_call 130; refine (fits_any P T Bo Bp cap room ls pl rest _ _ _ _ (HPK.out.belowAll ((Below.refl _ _).alloc (Nat.le_refl _) _)) (by omega) (by omega) false hd).mono ?_; rintro e w1 ⟨rfl, hb1⟩; obtain ⟨hbw, hres, hvar, hszw⟩ := after_call hb HNEW.out hb1; have v0 := cell_of hvar 0; have v1 := cell_of hvar 1; have y0 := cell_of hres 0; have y1 := cell_of hres 1; have x0 := frozen_of hres 0; have x1 := frozen_of hres 1; simp at v0 v1 y0 y1; have HRES := Lib.hid hres; clear hres hvar)
        go_roundw
        case rel =>
          refine ⟨k + 1, by omega, by go_num, fun j l' hj hl' => ?_, hbw, _, _, HRES.out⟩
          by_cases e : j = k
          · subst e; rw [HLK.out] at hl'; injection hl' with hl'; omega
          · exact HNO.out j l' (by omega) hl'
        case measure => simp [intOf]; omega
    · obtain rfl : k = ls.length := by omega
      go_wp2
      exact bodyPost_ret (v := .agg #[.int .i64 (ls.length : Int), .int .i64 0]) (by simp [results, Try.results123, go_sem, r0, r1]) rfl ⟨by rw [pick_first_none HNO.out, cart_new], (hb.setCell (p := ⟨w.heap.size, 0, none⟩) (Nat.le_refl _) _).setCell (p := ⟨w.heap.size, 1, none⟩) (Nat.le_refl _) _⟩
end
end Go.Proofs.Ytoheoojpmndhoaa

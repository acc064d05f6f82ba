/-
  The written program takes the latest thing back out of its box.
  Conditions: at most nine things, each from 1 to 100; the room at most 1000.
-/
import Derived.Test.YtoheoojpmndhoaaPut
namespace Go.Proofs.Ytoheoojpmndhoaa
set_option linter.unusedVariables false
open Go.RowKit

section
variable {w w' : World} {P T Bo Bp cap : Nat} {room : Int} {ls pl : List Int} {rest : List Value}

theorem Pk.popPlan {b : Int} (h : Pk w P T Bo Bp cap room ls (pl ++ [b]) rest) : Pk (w.setCell ⟨P, 4, none⟩ (.slice (some ⟨Bp, 0, none⟩) pl.length cap)) P T Bo Bp cap room ls pl rest := by
  have n1 := h.ne1
  have n2 := h.ne2
  have hl := h.len2
  rw [List.length_append] at hl
  refine ⟨?_, h.boxes.keep (set_far _ (by exact Ne.symm n1) _), ?_, n1, n2, h.ne3, h.len1, by omega, h.cap9⟩
  · rw [set_self h.self _ _]
    simp [five]
  · obtain ⟨cs, hb, hs, hc⟩ := h.plan
    exact ⟨cs, (set_far _ (by exact Ne.symm n2) _).trans hb, hs, fun i u hi => hc i u (by rw [List.getElem?_append_left (List.getElem?_eq_some_iff.1 hi).1]; exact hi)⟩

theorem Pk.popBox {x : Int} (h : Pk w P T Bo Bp cap room (ls ++ [x]) pl rest) :
    Pk (((w.setCell ⟨P, 3, none⟩ (.slice (some ⟨Bo, 0, none⟩) ls.length cap)).setCell ⟨P, 0, none⟩ (.int .i64 (ls.length : Int))).setCell ⟨P, 1, none⟩ (.int .i64 0)) P T Bo Bp cap room ls pl rest := by
  have n1 := h.ne1
  have n2 := h.ne2
  have hl := h.len1
  rw [List.length_append] at hl
  refine ⟨?_, ?_, ((h.plan.keep (set_far _ (by exact Ne.symm n2) _)).keep (set_far _ (by exact Ne.symm n2) _)).keep (set_far _ (by exact Ne.symm n2) _), n1, n2, h.ne3, by omega, h.len2, h.cap9⟩
  · rw [set_self (set_self (set_self h.self _ _) _ _) _ _]
    simp [five]
  · obtain ⟨cs, hb, hs, hc⟩ := h.boxes
    exact ⟨cs, (((set_far _ (by exact Ne.symm n1) _).trans ((set_far _ (by exact Ne.symm n1) _).trans (set_far _ (by exact Ne.symm n1) _)))).trans hb, hs, fun i u hi => hc i u (by rw [List.getElem?_append_left (List.getElem?_eq_some_iff.1 hi).1]; exact hi)⟩

theorem set_same {ls : List Int} {b : Nat} {l : Int} (h : ls[b]? = some l) : ls.set b l = ls := by
  obtain ⟨hb, e⟩ := List.getElem?_eq_some_iff.1 h
  rw [← e]
  exact List.set_getElem_self hb

theorem Pk.last {b : Int} (h : Pk w P T Bo Bp cap room ls (pl ++ [b]) rest) : w.cell? ⟨Bp, pl.length, none⟩ = some (.int .i64 b) := by
  obtain ⟨cs, hb, hs, hc⟩ := h.plan
  rw [cell_of hb]
  exact hc _ b (by simp)
end

set_option maxHeartbeats 2000000 in
set_option maxRecDepth 100000 in
theorem takeBack_new (P T Bo Bp cap : Nat) (room : Int) (ls pl : List Int) (rest : List Value) (size : Int) (w : World) (h : Pk w P T Bo Bp cap room (ls ++ [size]) (pl ++ [(ls.length : Int)]) rest) (hs : 1 ≤ size ∧ size ≤ 100) :
    Calls Try.prog 133 #[.pointer (some ⟨P, 0, none⟩), .int .i64 size] w (Put_ P T Bo Bp cap room ls pl rest w) := by
  obtain ⟨f0, f1, f2, f3, f4⟩ := h.facts
  obtain ⟨hP, hBo, hBp⟩ := h.lt
  have hlast := h.last
  have hlen1 := h.len1
  have hlen2 := h.len2
  have hcap := h.cap9
  rw [List.length_append] at hlen1 hlen2
  simp only [List.length_append, List.length_cons, List.length_nil, Nat.zero_add] at f0 f3 f4 hlen1 hlen2
  obtain ⟨kc, hkc⟩ : ∃ kc, ls.length = kc := ⟨_, rfl⟩
  obtain ⟨pc, hpc⟩ : ∃ pc, pl.length = pc := ⟨_, rfl⟩
  have HK := Lib.hid hkc
  have HP := Lib.hid hpc
  have hL : (ls ++ [size])[kc]? = some size := by rw [← hkc]; simp
  obtain ⟨k0, k1⟩ := h.box hL
  have z4 := h.frozen 4
  have bf := h.boxFree (kc * 2 + 1)
  have n1 := h.ne1
  have n2 := h.ne2
  have n3 := h.ne3
  rw [hkc] at f0 f3 hlast hlen1
  rw [hpc] at f4 hlast hlen2
  have HPK := Lib.hid h
  have hset : (ls ++ [size]).set kc 0 = ls ++ [0] := by rw [← hkc, List.set_append_right _ _ (Nat.le_refl _), Nat.sub_self]; rfl
  have hq1 := (h.popPlan).load hL 0
  rw [hset, hpc] at hq1
  have hq := hq1.alloc (.cells #[.int .i64 (kc : Int), .int .i64 0] 105)
  have hsz : ((w.setCell ⟨P, 4, none⟩ (.slice (some ⟨Bp, 0, none⟩) pc cap)).setCell ⟨Bo, kc * 2 + 1, none⟩ (.int .i64 0)).heap.size = w.heap.size := by simp
  have hbx : (((w.setCell ⟨P, 4, none⟩ (.slice (some ⟨Bp, 0, none⟩) pc cap)).setCell ⟨Bo, kc * 2 + 1, none⟩ (.int .i64 0)).alloc (.cells #[.int .i64 (kc : Int), .int .i64 0] 105)).heap[w.heap.size]? = some (.cells #[.int .i64 (kc : Int), .int .i64 0] 105 (0, 0)) := new_at _ _ hsz.symm
  have hon : Only (Three P Bo Bp) w (((w.setCell ⟨P, 4, none⟩ (.slice (some ⟨Bp, 0, none⟩) pc cap)).setCell ⟨Bo, kc * 2 + 1, none⟩ (.int .i64 0)).alloc (.cells #[.int .i64 (kc : Int), .int .i64 0] 105)) :=
    ((((Only.refl _ _).setCell (p := ⟨P, 4, none⟩) (Or.inl rfl) _).setCell (p := ⟨Bo, kc * 2 + 1, none⟩) (Or.inr (Or.inl rfl)) _).alloc _)
  obtain ⟨WX, hWX⟩ : ∃ WX, ((w.setCell ⟨P, 4, none⟩ (.slice (some ⟨Bp, 0, none⟩) pc cap)).setCell ⟨Bo, kc * 2 + 1, none⟩ (.int .i64 0)).alloc (.cells #[.int .i64 (kc : Int), .int .i64 0] 105) = WX := ⟨_, rfl⟩
  rw [hWX] at hq hbx hon
  have HQ := Lib.hid hq
  have HBX := Lib.hid hbx
  have HON := Lib.hid hon
  have HWX := Lib.hid hWX
  have HSET := Lib.hid hset
  clear hkc hpc hL h hq1 hq hsz hbx hon hWX hset
  go_enter Try.func133, Try.ntmps133
  go_wp2_with fail
  rw [HWX.out]
  obtain ⟨e0, e1, e2, e3, e4⟩ := HQ.out.facts
  obtain ⟨b0, b1⟩ := HQ.out.box (i := kc) (l := 0) (by rw [List.getElem?_append_right (by rw [HK.out]; exact Nat.le_refl _), HK.out, Nat.sub_self]; rfl)
  have v0 := cell_of HBX.out 0
  have v1 := cell_of HBX.out 1
  simp at v0 v1
  simp only [List.length_append, List.length_cons, List.length_nil, Nat.zero_add] at e0 e3
  rw [HK.out] at e0 e3
  have y0 := HQ.out.frozen 0
  have y1 := HQ.out.frozen 1
  have y3 := HQ.out.frozen 3
  have HPB := Lib.hid (show Pk (((WX.setCell ⟨P, 3, none⟩ (.slice (some ⟨Bo, 0, none⟩) kc cap)).setCell ⟨P, 0, none⟩ (.int .i64 (kc : Int))).setCell ⟨P, 1, none⟩ (.int .i64 0)) P T Bo Bp cap room ls pl rest by have := HQ.out.popBox; rwa [HK.out] at this)
  have hwP : ¬ w.heap.size = P := by omega
  clear f0 f1 f2 f3 f4 hlast k0 k1 z4 bf
  go_region
  go_wp2
  go_end0
  exact ⟨rfl, HPB.out.drew, (((HON.out.setCell (p := ⟨P, 3, none⟩) (Or.inl rfl) _).setCell (p := ⟨P, 0, none⟩) (Or.inl rfl) _).setCell (p := ⟨P, 1, none⟩) (Or.inl rfl) _).drew⟩

set_option maxHeartbeats 2000000 in
set_option maxRecDepth 100000 in
theorem takeBack_old (P T Bo Bp cap : Nat) (room : Int) (ls pl : List Int) (rest : List Value) (b : Nat) (l size : Int) (w : World) (h : Pk w P T Bo Bp cap room (ls.set b (l + size)) (pl ++ [(b : Int)]) rest) (hs : 1 ≤ size ∧ size ≤ 100) (hL : ls[b]? = some l) (hl : 1 ≤ l ∧ l ≤ 1000) :
    Calls Try.prog 133 #[.pointer (some ⟨P, 0, none⟩), .int .i64 size] w (Put_ P T Bo Bp cap room ls pl rest w) := by
  obtain ⟨f0, f1, f2, f3, f4⟩ := h.facts
  obtain ⟨hP, hBo, hBp⟩ := h.lt
  have hlast := h.last
  have hlen1 := h.len1
  have hlen2 := h.len2
  have hcap := h.cap9
  have hb := (List.getElem?_eq_some_iff.1 hL).1
  rw [List.length_set] at hlen1
  rw [List.length_append] at hlen2
  simp only [List.length_append, List.length_cons, List.length_nil, Nat.zero_add, List.length_set] at f0 f3 f4 hlen2
  obtain ⟨kc, hkc⟩ : ∃ kc, ls.length = kc := ⟨_, rfl⟩
  obtain ⟨pc, hpc⟩ : ∃ pc, pl.length = pc := ⟨_, rfl⟩
  have hL2 : (ls.set b (l + size))[b]? = some (l + size) := List.getElem?_set_self hb
  obtain ⟨k0, k1⟩ := h.box hL2
  have z4 := h.frozen 4
  have bf := h.boxFree (b * 2 + 1)
  have n1 := h.ne1
  have n2 := h.ne2
  have n3 := h.ne3
  rw [hkc] at f0 f3 hlen1 hb
  rw [hpc] at f4 hlast hlen2
  have hset : (ls.set b (l + size)).set b l = ls := by
    rw [List.set_set]
    exact set_same hL
  have hq1 := (h.popPlan).load hL2 l
  rw [hset, hpc] at hq1
  have hq := hq1.alloc (.cells #[.int .i64 (b : Int), .int .i64 0] 105)
  have hsz : ((w.setCell ⟨P, 4, none⟩ (.slice (some ⟨Bp, 0, none⟩) pc cap)).setCell ⟨Bo, b * 2 + 1, none⟩ (.int .i64 l)).heap.size = w.heap.size := by simp
  have hbx : (((w.setCell ⟨P, 4, none⟩ (.slice (some ⟨Bp, 0, none⟩) pc cap)).setCell ⟨Bo, b * 2 + 1, none⟩ (.int .i64 l)).alloc (.cells #[.int .i64 (b : Int), .int .i64 0] 105)).heap[w.heap.size]? = some (.cells #[.int .i64 (b : Int), .int .i64 0] 105 (0, 0)) := new_at _ _ hsz.symm
  have hon : Only (Three P Bo Bp) w (((w.setCell ⟨P, 4, none⟩ (.slice (some ⟨Bp, 0, none⟩) pc cap)).setCell ⟨Bo, b * 2 + 1, none⟩ (.int .i64 l)).alloc (.cells #[.int .i64 (b : Int), .int .i64 0] 105)) :=
    ((((Only.refl _ _).setCell (p := ⟨P, 4, none⟩) (Or.inl rfl) _).setCell (p := ⟨Bo, b * 2 + 1, none⟩) (Or.inr (Or.inl rfl)) _).alloc _)
  obtain ⟨WX, hWX⟩ : ∃ WX, ((w.setCell ⟨P, 4, none⟩ (.slice (some ⟨Bp, 0, none⟩) pc cap)).setCell ⟨Bo, b * 2 + 1, none⟩ (.int .i64 l)).alloc (.cells #[.int .i64 (b : Int), .int .i64 0] 105) = WX := ⟨_, rfl⟩
  rw [hWX] at hq hbx hon
  have HK := Lib.hid hkc
  have HQ := Lib.hid hq
  have HBX := Lib.hid hbx
  have HON := Lib.hid hon
  have HWX := Lib.hid hWX
  have HL := Lib.hid hL
  have hsub : l + size - size = l := by omega
  have hne : (l == 0) = false := by simp; omega
  clear hkc hpc hL hL2 h hq1 hq hsz hbx hon hWX hset
  go_enter Try.func133, Try.ntmps133
  go_wp2_with fail
  rw [HWX.out]
  obtain ⟨e0, e1, e2, e3, e4⟩ := HQ.out.facts
  obtain ⟨b0, b1⟩ := HQ.out.box HL.out
  have v0 := cell_of HBX.out 0
  have v1 := cell_of HBX.out 1
  simp at v0 v1
  rw [HK.out] at e0 e3
  clear f0 f1 f2 f3 f4 hlast k0 k1 z4 bf
  go_region
  go_wp2
  go_end0
  exact ⟨rfl, HQ.out.drew, HON.out.drew⟩

theorem takeBack_any (P T Bo Bp cap : Nat) (room : Int) (ls pl : List Int) (rest : List Value) (b : Nat) (size : Int) (w : World) (h : Pk w P T Bo Bp cap room (addTo ls b size) (pl ++ [(b : Int)]) rest)
    (hs : 1 ≤ size ∧ size ≤ 100) (hr : room ≤ 1000) (hl : Loads room ls) (hb : b ≤ ls.length) :
    Calls Try.prog 133 #[.pointer (some ⟨P, 0, none⟩), .int .i64 size] w (Put_ P T Bo Bp cap room ls pl rest w) := by
  by_cases e : b = ls.length
  · subst e
    have e2 : addTo ls ls.length size = ls ++ [size] := by unfold addTo; rw [if_pos rfl]
    rw [e2] at h
    exact takeBack_new P T Bo Bp cap room ls pl rest size w h hs
  · have hlk : ls[b]? = some ls[b] := List.getElem?_eq_getElem (by omega)
    have hlb := hl.at_ hlk
    rw [addTo_old hlk] at h
    exact takeBack_old P T Bo Bp cap room ls pl rest b _ size w h hs hlk (by omega)
end Go.Proofs.Ytoheoojpmndhoaa

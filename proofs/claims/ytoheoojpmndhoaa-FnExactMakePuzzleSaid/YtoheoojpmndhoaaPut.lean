/-
  The written program puts a thing into a box: the box holds it then, and the plan tells the box.
  Conditions: at most nine things, each from 1 to 100; the room at most 1000.
-/
import Derived.Test.YtoheoojpmndhoaaPk
import Derived.Deep.RegionLaw
import Derived.Deep.DeepCutAuto
namespace Go.Proofs.Ytoheoojpmndhoaa
set_option linter.unusedVariables false
open Go.RowKit

section
variable {w w' : World} {P T Bo Bp cap : Nat} {room : Int} {ls pl : List Int} {rest : List Value}

theorem Pk.alloc (h : Pk w P T Bo Bp cap room ls pl rest) (o : Obj) : Pk (w.alloc o) P T Bo Bp cap room ls pl rest :=
  h.belowAll ((Below.refl _ _).alloc (Nat.le_refl _) _)

theorem Pk.drewN (h : Pk w P T Bo Bp cap room ls pl rest) (n : Nat) : Pk (w.drewN n) P T Bo Bp cap room ls pl rest := h.keep fun _ _ => rfl
theorem Pk.drew (h : Pk w P T Bo Bp cap room ls pl rest) : Pk w.drew P T Bo Bp cap room ls pl rest := h.keep fun _ _ => rfl

theorem Boxes.set (h : Boxes w Bo cap ls) {b : Nat} {l : Int} (hl : ls[b]? = some l) (l' : Int) : Boxes (w.setCell ⟨Bo, b * 2 + 1, none⟩ (.int .i64 l')) Bo cap (ls.set b l') := by
  obtain ⟨cs, hb, hs, hc⟩ := h
  refine ⟨cs.setIfInBounds (b * 2 + 1) (.int .i64 l'), set_self hb _ _, by simpa using hs, fun i li hi => ?_⟩
  have hbs := (Array.getElem?_eq_some_iff.1 (hc b l hl).2).1
  by_cases e : i = b
  · subst e
    have hl' := (List.getElem?_eq_some_iff.1 hl).1
    rw [List.getElem?_set_self hl'] at hi
    injection hi with hi
    subst hi
    exact ⟨by rw [Array.getElem?_setIfInBounds_ne (by omega)]; exact (hc i l hl).1, by rw [Array.getElem?_setIfInBounds_self_of_lt hbs]⟩
  · rw [List.getElem?_set_ne (by omega)] at hi
    exact ⟨by rw [Array.getElem?_setIfInBounds_ne (by omega)]; exact (hc i li hi).1, by rw [Array.getElem?_setIfInBounds_ne (by omega)]; exact (hc i li hi).2⟩

theorem Boxes.push (h : Boxes w Bo cap ls) (hcap : ls.length < cap) (l : Int) :
    Boxes ((w.setCell ⟨Bo, ls.length * 2, none⟩ (.int .i64 (ls.length : Int))).setCell ⟨Bo, ls.length * 2 + 1, none⟩ (.int .i64 l)) Bo cap (ls ++ [l]) := by
  obtain ⟨cs, hb, hs, hc⟩ := h
  refine ⟨_, set_self (set_self hb _ _) _ _, by simpa using hs, fun i li hi => ?_⟩
  by_cases e : i = ls.length
  · subst e
    simp at hi
    subst hi
    exact ⟨by rw [Array.getElem?_setIfInBounds_ne (by omega), Array.getElem?_setIfInBounds_self_of_lt (by omega)], by rw [Array.getElem?_setIfInBounds_self_of_lt (by simp; omega)]⟩
  · have hlt : i < ls.length := by
      have := (List.getElem?_eq_some_iff.1 hi).1
      simp at this
      omega
    rw [List.getElem?_append_left hlt] at hi
    exact ⟨by rw [Array.getElem?_setIfInBounds_ne (by omega), Array.getElem?_setIfInBounds_ne (by omega)]; exact (hc i li hi).1,
      by rw [Array.getElem?_setIfInBounds_ne (by omega), Array.getElem?_setIfInBounds_ne (by omega)]; exact (hc i li hi).2⟩

theorem Plan.push (h : Plan w Bp cap pl) (hcap : pl.length < cap) (b : Int) : Plan (w.setCell ⟨Bp, pl.length, none⟩ (.int .i64 b)) Bp cap (pl ++ [b]) := by
  obtain ⟨cs, hb, hs, hc⟩ := h
  refine ⟨_, set_self hb _ _, by simpa using hs, fun i bi hi => ?_⟩
  by_cases e : i = pl.length
  · subst e
    simp at hi
    subst hi
    rw [Array.getElem?_setIfInBounds_self_of_lt (by omega)]
  · have hlt : i < pl.length := by
      have := (List.getElem?_eq_some_iff.1 hi).1
      simp at this
      omega
    rw [List.getElem?_append_left hlt] at hi
    rw [Array.getElem?_setIfInBounds_ne (by omega)]
    exact hc i bi hi

/-- A new box is opened. -/
theorem Pk.open_ (h : Pk w P T Bo Bp cap room ls pl rest) (hcap : ls.length < cap) :
    Pk ((((w.setCell ⟨Bo, ls.length * 2, none⟩ (.int .i64 (ls.length : Int))).setCell ⟨Bo, ls.length * 2 + 1, none⟩ (.int .i64 0)).setCell ⟨P, 3, none⟩ (.slice (some ⟨Bo, 0, none⟩) (ls.length + 1) cap)).setCell ⟨P, 0, none⟩ (.int .i64 ((ls.length : Int) + 1)))
      P T Bo Bp cap room (ls ++ [0]) pl rest := by
  have n1 := h.ne1
  have n2 := h.ne2
  have n3 := h.ne3
  have ha := h
  refine ⟨?_, ?_, ?_, n1, n2, n3, by simp; omega, h.len2, h.cap9⟩
  · have e : ((ls ++ [0]).length : Int) = (ls.length : Int) + 1 := by simp
    rw [set_self (set_self ((set_far _ (by exact n1) _).trans ((set_far _ (by exact n1) _).trans ha.self)) _ _) _ _]
    simp [five]
  · exact ((ha.boxes.push hcap 0).keep (set_far _ (by exact Ne.symm n1) _)).keep (set_far _ (by exact Ne.symm n1) _)
  · exact (((ha.plan.keep (set_far _ (by exact Ne.symm n3) _)).keep (set_far _ (by exact Ne.symm n3) _)).keep (set_far _ (by exact Ne.symm n2) _)).keep (set_far _ (by exact Ne.symm n2) _)

/-- A box holds more. -/
theorem Pk.load (h : Pk w P T Bo Bp cap room ls pl rest) {b : Nat} {l : Int} (hl : ls[b]? = some l) (l' : Int) : Pk (w.setCell ⟨Bo, b * 2 + 1, none⟩ (.int .i64 l')) P T Bo Bp cap room (ls.set b l') pl rest := by
  have n1 := h.ne1
  have n3 := h.ne3
  refine ⟨?_, h.boxes.set hl l', h.plan.keep (set_far _ (by exact Ne.symm n3) _), n1, h.ne2, n3, by simpa using h.len1, h.len2, h.cap9⟩
  rw [set_far _ (by exact n1) _, h.self]
  simp [five]

/-- The plan goes on. -/
theorem Pk.go_on (h : Pk w P T Bo Bp cap room ls pl rest) (hcap : pl.length < cap) (b : Int) :
    Pk ((w.setCell ⟨Bp, pl.length, none⟩ (.int .i64 b)).setCell ⟨P, 4, none⟩ (.slice (some ⟨Bp, 0, none⟩) (pl.length + 1) cap)) P T Bo Bp cap room ls (pl ++ [b]) rest := by
  have n1 := h.ne1
  have n2 := h.ne2
  have n3 := h.ne3
  have ha := h
  refine ⟨?_, ?_, ?_, n1, n2, n3, h.len1, by simp; omega, h.cap9⟩
  · rw [set_self ((set_far _ (by exact n2) _).trans ha.self) _ _]
    simp [five]
  · exact (ha.boxes.keep (set_far _ (by exact n3) _)).keep (set_far _ (by exact Ne.symm n1) _)
  · exact (ha.plan.push hcap b).keep (set_far _ (by exact Ne.symm n2) _)

theorem Pk.spareBox (h : Pk w P T Bo Bp cap room ls pl rest) (hcap : ls.length < cap) : ∀ j, j < 2 → (w.cell? ⟨Bo, ls.length * 2 + j, none⟩).isSome = true ∧ w.frozen? ⟨Bo, ls.length * 2 + j, none⟩ = false := by
  obtain ⟨cs, hb, hs, hc⟩ := h.boxes
  intro j hj
  rw [cell_of hb, frozen_of hb, Array.getElem?_eq_getElem (by omega)]
  exact ⟨rfl, rfl⟩

theorem Pk.sparePlan (h : Pk w P T Bo Bp cap room ls pl rest) (hcap : pl.length < cap) : ∀ j, j < 1 → (w.cell? ⟨Bp, pl.length + j, none⟩).isSome = true ∧ w.frozen? ⟨Bp, pl.length + j, none⟩ = false := by
  obtain ⟨cs, hb, hs, hc⟩ := h.plan
  intro j hj
  rw [cell_of hb, frozen_of hb, Array.getElem?_eq_getElem (by omega)]
  exact ⟨rfl, rfl⟩

theorem Pk.boxFree (h : Pk w P T Bo Bp cap room ls pl rest) (i : Nat) : w.frozen? ⟨Bo, i, none⟩ = false := by
  obtain ⟨cs, hb, hs, hc⟩ := h.boxes
  exact frozen_of hb i
end

theorem carton_info : (Try.prog.info? 105).map (fun i => (i.zero, i.size, i.bytes)) = some (some (.agg #[.int .i64 0, .int .i64 0]), 2, 16) := by kernel_rfl

/-- The three blocks of a packing. -/
def Three (P Bo Bp : Nat) (k : Nat) : Prop := k = P ∨ k = Bo ∨ k = Bp

/-- What 'put' leaves. -/
def Put_ (P T Bo Bp cap : Nat) (room : Int) (ls pl : List Int) (rest : List Value) (w : World) (e : Ending) (w' : World) : Prop :=
  e = .returned (.tuple #[]) ∧ Pk w' P T Bo Bp cap room ls pl rest ∧ Only (Three P Bo Bp) w w'

theorem two_new (w : World) (u v : Value) (T : Nat) : ∀ (j : Nat) (x : Value), [u, v][j]? = some x → (w.alloc (.cells #[u, v] T)).cell? ((⟨w.heap.size, 0, none⟩ : Addr).add j) = some x := by
  intro j x hj
  match j, hj with
  | 0, hj => simp at hj; subst hj; simp [Addr.add]
  | 1, hj => simp at hj; subst hj; simp [Addr.add]

set_option maxHeartbeats 2000000 in
set_option maxRecDepth 100000 in
theorem put_new (P T Bo Bp cap : Nat) (room : Int) (ls pl : List Int) (rest : List Value) (size : Int) (w : World) (h : Pk w P T Bo Bp cap room ls pl rest)
    (hs : 1 ≤ size ∧ size ≤ 100) (hc1 : ls.length < cap) (hc2 : pl.length < cap) :
    Calls Try.prog 129 #[.pointer (some ⟨P, 0, none⟩), .agg #[.int .i64 (ls.length : Int), .int .i64 0], .int .i64 size] w (Put_ P T Bo Bp cap room (ls ++ [size]) (pl ++ [((ls.length : Int) : Int)]) rest w) := by
  obtain ⟨i0, hi, hz0, hz1, hz2⟩ := info_parts carton_info
  obtain ⟨j0, hj, hj0, hj1, hj2⟩ := info_parts int_info
  have hk := h.alloc (.cells #[.int .i64 (ls.length : Int), .int .i64 0] 105)
  have hsp := (hk.alloc (.cells #[.int .i64 (ls.length : Int), .int .i64 0] 105)).spareBox hc1
  have HSP := Lib.hid hsp
  obtain ⟨f0, f1, f2, f3, f4⟩ := hk.facts
  have z0 := hk.frozen 0
  have z3 := hk.frozen 3
  obtain ⟨hP, hBo, hBp⟩ := h.lt
  have hPB : ¬ P = Bo := h.ne1
  have h9 := h.cap9
  have HK := Lib.hid hk
  have hl := h.len1
  have hw0 : ¬ w.heap.size = P := by omega
  have hwB : ¬ w.heap.size = Bo := by omega
  clear hsp hk h
  go_enter Try.func129, Try.ntmps129
  go_wp2
  go_quiet (fail)
  go_upto_if 11 with (fail)
  go_cut [] (fun wx => Pk wx P T Bo Bp cap room (ls ++ [0]) pl rest ∧ wx.heap[w.heap.size]? = some (.cells #[.int .i64 (ls.length : Int), .int .i64 0] 105 (0, 0)) ∧ Only (Three P Bo Bp) w wx)
  case first =>
    go_wp2
    go_region_law (refine step_append_room rfl (.tmp 16) (.tmp 18) 106 rfl 105 i0 2 Try.underlying106 hi hz1 Bo 0 ls.length cap (by simp [Act.eval]) ⟨w.heap.size + 1, 0, none⟩ 1 1 [.int .i64 (ls.length : Int), .int .i64 0] (by simp [Act.eval]) rfl (by intro j x hj; match j, hj with | 0, hj => (simp at hj; subst hj; go_simp) | 1, hj => (simp at hj; subst hj; go_simp)) (by intro x hx; simp at hx; rcases hx with rfl | rfl <;> rfl) (by omega) (by intro j hj; rw [Nat.zero_add]; exact HSP.out j hj) ?_; simp only [World.setCells])
    all_goals go_wp2
    all_goals go_meet
    all_goals exact ⟨((HK.out.drewN _).open_ hc1).alloc _, (alloc_old _ (by simp) _).trans ((set_far _ (by exact hw0) _).trans ((set_far _ (by exact hw0) _).trans ((set_far _ (by exact hwB) _).trans ((set_far _ (by exact hwB) _).trans (heap_alloc_new w _))))),
      (((((((Only.refl _ _).alloc _).drewN _).setCell (p := ⟨Bo, ls.length * 2, none⟩) (Or.inr (Or.inl rfl)) _).setCell (p := ⟨Bo, ls.length * 2 + 1, none⟩) (Or.inr (Or.inl rfl)) _).setCell (p := ⟨P, 3, none⟩) (Or.inl rfl) _).setCell (p := ⟨P, 0, none⟩) (Or.inl rfl) _).alloc _⟩
  case rest =>
    obtain ⟨hq, hbox, honly⟩ := hcut
    obtain ⟨ls1, hls1⟩ : ∃ ls1, ls1 = ls ++ [0] := ⟨_, rfl⟩
    have hL : ls1[ls.length]? = some 0 := by rw [hls1]; simp
    rw [← hls1] at hq
    have HLS := Lib.hid (show ls1.set ls.length size = ls ++ [size] by rw [hls1, List.set_append_right _ _ (Nat.le_refl _), Nat.sub_self, List.set_cons_zero])
    clear hls1
    clear f0 f1 f2 f3 f4 z0 z3
    have hql := hq.len1
    have hq9 := hq.cap9
    have v0 := cell_of hbox 0
    have v1 := cell_of hbox 1
    simp at v0 v1
    obtain ⟨f0, f1, f2, f3, f4⟩ := hq.facts
    have bf := hq.boxFree (ls.length * 2 + 1)
    obtain ⟨k0, k1⟩ := hq.box hL
    have hLl := (List.getElem?_eq_some_iff.1 hL).1
    have HL := Lib.hid hL
    have HQ := Lib.hid hq
    have HBX := Lib.hid hbox
    clear hq hbox hL
    go_upto_region 4 with (fail)
    go_cut [] (fun wx => Pk wx P T Bo Bp cap room (ls1.set (ls.length) size) pl rest ∧ wx.heap[w.heap.size]? = some (.cells #[.int .i64 (ls.length : Int), .int .i64 0] 105 (0, 0)) ∧ Only (Three P Bo Bp) w wx)
    case first =>
      go_region
      all_goals (go_wp2_with fail; go_meet; exact ⟨(HQ.out.load HL.out _).drew, (set_far _ (by exact hwB) _).trans HBX.out, (honly.setCell (p := ⟨Bo, ls.length * 2 + 1, none⟩) (Or.inr (Or.inl rfl)) _).drew⟩)
    case rest =>
      clear v0 v1 f0 f1 f2 f3 f4 bf k0 k1 honly
      obtain ⟨hq, hbox, honly⟩ := hcut
      have v0 := cell_of hbox 0
      have v1 := cell_of hbox 1
      simp at v0 v1
      obtain ⟨f0, f1, f2, f3, f4⟩ := hq.facts
      have z4 := hq.frozen 4
      have hPp : ¬ P = Bp := hq.ne2
      obtain ⟨hPw, _, hBpw⟩ := hq.lt
      have HSP2 := Lib.hid ((hq.alloc (.cells #[.int .i64 (ls.length : Int)] 3)).sparePlan hc2)
      have HQ2 := Lib.hid hq
      clear hq hbox
      go_upto_region 5 with (fail)
      go_region_law (refine step_append_room rfl (.tmp 48) (.tmp 51) 39 rfl 3 j0 1 Try.underlying39 hj hj1 Bp 0 pl.length cap (by simp [Act.eval]) ⟨wc.heap.size, 0, none⟩ 1 1 [.int .i64 (ls.length : Int)] (by simp [Act.eval]) rfl (by intro j x hj; match j, hj with | 0, hj => (simp at hj; subst hj; go_simp)) (by intro x hx; simp at hx; rcases hx with rfl; rfl) (by omega) (by intro j hj; rw [Nat.zero_add, Nat.mul_one]; exact HSP2.out j hj) ?_; simp only [World.setCells])
      all_goals go_wp2
      all_goals go_end0
      all_goals exact ⟨rfl, by rw [← HLS.out]; exact ((HQ2.out.go_on hc2 _).alloc _).drew, ((((honly.setCell (p := ⟨Bp, pl.length, none⟩) (Or.inr (Or.inr rfl)) _).setCell (p := ⟨P, 4, none⟩) (Or.inl rfl) _).alloc _).drew)⟩

set_option maxHeartbeats 2000000 in
set_option maxRecDepth 100000 in
theorem put_old (P T Bo Bp cap : Nat) (room : Int) (ls pl : List Int) (rest : List Value) (b : Nat) (l size : Int) (w : World) (h : Pk w P T Bo Bp cap room ls pl rest)
    (hs : 1 ≤ size ∧ size ≤ 100) (hL : ls[b]? = some l) (hl : 1 ≤ l ∧ l ≤ 1000) (hc2 : pl.length < cap) :
    Calls Try.prog 129 #[.pointer (some ⟨P, 0, none⟩), .agg #[.int .i64 (b : Int), .int .i64 l], .int .i64 size] w (Put_ P T Bo Bp cap room (ls.set b (l + size)) (pl ++ [(b : Int)]) rest w) := by
  obtain ⟨j0, hj, hj0, hj1, hj2⟩ := info_parts int_info
  have hk := h.alloc (.cells #[.int .i64 (b : Int), .int .i64 l] 105)
  obtain ⟨f0, f1, f2, f3, f4⟩ := hk.facts
  obtain ⟨hP, hBo, hBp⟩ := h.lt
  have hPB : ¬ P = Bo := h.ne1
  have HK := Lib.hid hk
  have hwB : ¬ w.heap.size = Bo := by omega
  have hbl := (List.getElem?_eq_some_iff.1 hL).1
  have hne : ((b : Int) == (ls.length : Int)) = false := by rw [beq_eq_false_iff_ne]; omega
  have HL0 := Lib.hid hL
  clear hk h hL
  go_enter Try.func129, Try.ntmps129
  go_wp2
  go_quiet (fail)
  go_upto_if 11 with (fail)
  go_cut [] (fun wx => Pk wx P T Bo Bp cap room ls pl rest ∧ wx.heap[w.heap.size]? = some (.cells #[.int .i64 (b : Int), .int .i64 l] 105 (0, 0)) ∧ Only (Three P Bo Bp) w wx)
  case first =>
    go_wp2_with fail
    go_meet
    exact ⟨HK.out.drewN _, heap_alloc_new w _, ((Only.refl _ _).alloc _).drewN _⟩
  case rest =>
    obtain ⟨hq, hbox, honly⟩ := hcut
    have hL := HL0.out
    clear f0 f1 f2 f3 f4
    have hql := hq.len1
    have hq9 := hq.cap9
    have v0 := cell_of hbox 0
    have v1 := cell_of hbox 1
    simp at v0 v1
    obtain ⟨f0, f1, f2, f3, f4⟩ := hq.facts
    have bf := hq.boxFree (b * 2 + 1)
    obtain ⟨k0, k1⟩ := hq.box hL
    have hLl := (List.getElem?_eq_some_iff.1 hL).1
    have HL := Lib.hid hL
    have HQ := Lib.hid hq
    have HBX := Lib.hid hbox
    clear hq hbox hL
    go_upto_region 4 with (fail)
    go_cut [] (fun wx => Pk wx P T Bo Bp cap room (ls.set b (l + size)) pl rest ∧ wx.heap[w.heap.size]? = some (.cells #[.int .i64 (b : Int), .int .i64 l] 105 (0, 0)) ∧ Only (Three P Bo Bp) w wx)
    case first =>
      go_region
      all_goals (go_wp2_with fail; go_meet; exact ⟨(HQ.out.load HL.out _).drew, (set_far _ (by exact hwB) _).trans HBX.out, (honly.setCell (p := ⟨Bo, b * 2 + 1, none⟩) (Or.inr (Or.inl rfl)) _).drew⟩)
    case rest =>
      clear v0 v1 f0 f1 f2 f3 f4 bf k0 k1 honly
      obtain ⟨hq, hbox, honly⟩ := hcut
      have v0 := cell_of hbox 0
      have v1 := cell_of hbox 1
      simp at v0 v1
      obtain ⟨f0, f1, f2, f3, f4⟩ := hq.facts
      have z4 := hq.frozen 4
      have hPp : ¬ P = Bp := hq.ne2
      obtain ⟨hPw, _, hBpw⟩ := hq.lt
      have HSP2 := Lib.hid ((hq.alloc (.cells #[.int .i64 (b : Int)] 3)).sparePlan hc2)
      have HQ2 := Lib.hid hq
      clear hq hbox
      go_upto_region 5 with (fail)
      go_region_law (refine step_append_room rfl (.tmp 48) (.tmp 51) 39 rfl 3 j0 1 Try.underlying39 hj hj1 Bp 0 pl.length cap (by simp [Act.eval]) ⟨wc.heap.size, 0, none⟩ 1 1 [.int .i64 (b : Int)] (by simp [Act.eval]) rfl (by intro j x hj; match j, hj with | 0, hj => (simp at hj; subst hj; go_simp)) (by intro x hx; simp at hx; rcases hx with rfl; rfl) (by omega) (by intro j hj; rw [Nat.zero_add, Nat.mul_one]; exact HSP2.out j hj) ?_; simp only [World.setCells])
      all_goals go_wp2
      all_goals go_end0
      all_goals exact ⟨rfl, by exact ((HQ2.out.go_on hc2 _).alloc _).drew, ((((honly.setCell (p := ⟨Bp, pl.length, none⟩) (Or.inr (Or.inr rfl)) _).setCell (p := ⟨P, 4, none⟩) (Or.inl rfl) _).alloc _).drew)⟩

theorem put_any (P T Bo Bp cap : Nat) (room : Int) (ls pl : List Int) (rest : List Value) (b : Nat) (size : Int) (w : World) (h : Pk w P T Bo Bp cap room ls pl rest)
    (hs : 1 ≤ size ∧ size ≤ 100) (hr : room ≤ 1000) (hl : Loads room ls) (hb : b ≤ ls.length) (hc1 : ls.length < cap) (hc2 : pl.length < cap) :
    Calls Try.prog 129 #[.pointer (some ⟨P, 0, none⟩), cart ls b, .int .i64 size] w (Put_ P T Bo Bp cap room (addTo ls b size) (pl ++ [(b : Int)]) rest w) := by
  by_cases e : b = ls.length
  · subst e
    rw [cart_new]
    have e2 : addTo ls ls.length size = ls ++ [size] := by unfold addTo; rw [if_pos rfl]
    rw [e2]
    exact put_new P T Bo Bp cap room ls pl rest size w h hs hc1 hc2
  · have hlk : ls[b]? = some ls[b] := List.getElem?_eq_getElem (by omega)
    have hlb := hl.at_ hlk
    rw [cart_at hlk, addTo_old hlk]
    exact put_old P T Bo Bp cap room ls pl rest b _ size w h hs hlk (by omega) hc2
end Go.Proofs.Ytoheoojpmndhoaa

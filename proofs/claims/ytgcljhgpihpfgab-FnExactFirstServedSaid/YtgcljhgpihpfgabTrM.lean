/-
  A van on a tour: its methods.
  Conditions: at most sixteen letters.
-/
import Derived.Test.YtgcljhgpihpfgabTrW
namespace Go.Proofs.Ytgcljhgpihpfgab
set_option linter.unusedVariables false
open Go.RowKit

theorem Lay_.trans {w w' : World} {A B C : Option Addr} (h : Lay_ w A B) (k : Lay_ w' B C) (hs : w.heap.size ≤ w'.heap.size) : Lay_ w A C := by
  rcases k with rfl | ⟨g, e, hg⟩
  · exact h
  · exact .inr ⟨g, e, by omega⟩
theorem Lay_.refl (w : World) (A : Option Addr) : Lay_ w A A := .inl rfl
/-- What was there turns at most in the van's blocks, step by step. -/
theorem only_step {w w' w2 : World} {P : Nat} {A B A' B' : Option Addr} (h : Only (TripS P A B) w w') (hA : Lay_ w A A') (hB : Lay_ w B B') (k : Only (TripS P A' B') w' w2) : Only (TripS P A B) w w2 := by
  refine ⟨k.os.trans h.os, k.tape.trans h.tape, k.output.trans h.output, Nat.le_trans h.size k.size, fun i hi hs => ?_⟩
  refine (k.block i (Nat.lt_of_lt_of_le hi h.size) fun hs' => ?_).trans (h.block i hi hs)
  rcases hs' with e | e | e
  · exact hs (.inl e)
  · rcases hA with e' | ⟨g, e', hg⟩
    · exact hs (.inr (.inl (e' ▸ e)))
    · rw [e'] at e; injection e with e; injection e with e; omega
  · rcases hB with e' | ⟨g, e', hg⟩
    · exact hs (.inr (.inr (e' ▸ e)))
    · rw [e'] at e; injection e with e; injection e with e; omega

/-- How a method that goes on ends. -/
def TripTo (P base : Nat) (t' : Trip) (A B : Option Addr) (w : World) (w' : World) : Prop :=
  ∃ A' n' c' B' m' d', TripW w' P base t' A' n' c' B' m' d' ∧ Only (TripS P A B) w w' ∧ Lay_ w A A' ∧ Lay_ w B B'

set_option maxRecDepth 100000 in
set_option maxHeartbeats 2000000 in
theorem load_any (P base : Nat) (t : Trip) (A : Option Addr) (n c : Nat) (B : Option Addr) (m d : Nat) (x : Int) (w : World) (h : TripW w P base t A n c B m d) (hn : n ≤ 100) (hm : m ≤ 100) (hbase : base ≤ w.heap.size) (hf : t.full ≤ 1000) :
    Calls Try.prog 62 #[.pointer (some ⟨P, 0, none⟩), .int .u8 x] w fun e w' =>
      if t.ld.contains x = true then e = .returned (.bool false) ∧ w = w' else e = .returned (.bool true) ∧ TripTo P base ⟨t.ld ++ [x], t.op ++ [x], max t.full ((t.op.length : Int) + 1), t.blk⟩ A B w w' := by
  obtain ⟨i0, hi0, hz0, hz1, hz2⟩ := info_parts u8_info
  obtain ⟨c0, c1, c2, c3⟩ := h.cells
  have f0 := h.free 0
  have f1 := h.free 1
  have f2 := h.free 2
  have hP := h.lt
  have hct := containsB_any A n c base t.ld x w h.ld (by omega)
  rw [← contains_at] at hct
  obtain ⟨q, hq⟩ : ∃ q, t.ld.contains x = q := ⟨_, rfl⟩
  rw [hq] at hct ⊢
  have HCT := Lib.hid hct
  have HH := Lib.hid h
  clear hct hq h
  cases q
  case true =>
    go_enter Try.func62, Try.ntmps62
    go_wp2_with fail
    refine HCT.out.mono ?_
    rintro e w1 ⟨rfl, rfl⟩
    go_wp2
    go_ret
    exact ⟨rfl, rfl⟩
  have HO1 := Lib.hid (HH.out.ld.alloc (.cells #[.int .u8 x] 5))
  have HN1 := Lib.hid (cell_of (new_at w (.cells #[.int .u8 x] 5) rfl) 0)
  have hl := HH.out.op.len
  go_enter Try.func62, Try.ntmps62
  go_wp2_with fail
  refine HCT.out.mono ?_
  rintro e w1 ⟨rfl, rfl⟩
  go_wp2_with (first
    | (at_builtin; (refine wpList_append_ownU _ rfl _ _ 35 rfl base 5 i0 Try.underlying35 hi0 hz0 hz1 hz2 _ n _ rfl HO1.out _ 1 (.int .u8 x) rfl HN1.out rfl (by omega) (by simp; omega) ?_; intro v3 w3 hown3 hgr3 hor3; obtain ⟨A3, k3, rfl⟩ := slice_form hown3; have p0 := cell_of ((hgr3.block P (by simp; omega) (fun e => HH.out.ap1 P (HH.out.ld.block e.symm) rfl)).trans ((alloc_old _ hP _).trans HH.out.self)) 0; have pf0 := frozen_of ((hgr3.block P (by simp; omega) (fun e => HH.out.ap1 P (HH.out.ld.block e.symm) rfl)).trans ((alloc_old _ hP _).trans HH.out.self)) 0; obtain ⟨ht4, ho4, hl4⟩ := HH.out.told x hown3 hgr3 hor3; have HT4 := Lib.hid ht4; have HO4 := Lib.hid ho4; have HL4 := Lib.hid hl4; have hs4 := ho4.size; obtain ⟨e0, e1, e2, e3⟩ := ht4.cells; have g1 := ht4.free 1; have hP4 := ht4.lt; have HO5 := Lib.hid (ht4.op.alloc (.cells #[.int .u8 x] 5)); have HN5 := Lib.hid (cell_of (new_at (w3.setCell ⟨P, 0, none⟩ (.slice A3 (n + 1) k3)) (g := w3.heap.size) (.cells #[.int .u8 x] 5) (by simp)) 0); clear hown3 hgr3 hor3 ht4 ho4 hl4))
    | (at_builtin; (refine wpList_append_ownU _ rfl _ _ 35 rfl base 5 i0 Try.underlying35 hi0 hz0 hz1 hz2 _ m _ rfl HO5.out _ 1 (.int .u8 x) rfl HN5.out rfl (by omega) (by simp at hs4 ⊢; omega) ?_; intro v5 w5 hown5 hgr5 hor5; obtain ⟨B5, k5, rfl⟩ := slice_form hown5; have p1 := cell_of ((hgr5.block P (by simp at hP4 ⊢; omega) (fun e => HT4.out.ap2 P (HT4.out.op.block e.symm) rfl)).trans ((alloc_old _ hP4 _).trans HT4.out.self)) 1; have pf1 := frozen_of ((hgr5.block P (by simp at hP4 ⊢; omega) (fun e => HT4.out.ap2 P (HT4.out.op.block e.symm) rfl)).trans ((alloc_old _ hP4 _).trans HT4.out.self)) 1; obtain ⟨ht6, ho6, hl6⟩ := HT4.out.opened x hown5 hgr5 hor5; have HT6 := Lib.hid ht6; have HO6 := Lib.hid ho6; have HL6 := Lib.hid hl6; obtain ⟨r0, r1, r2, r3⟩ := ht6.cells; have g2 := ht6.free 2; clear hown5 hgr5 hor5 ht6 ho6 hl6)))
  go_region
  all_goals go_wp2
  go_ret
  have hm7 := (HT6.out.filled (max t.full ((m : Int) + 1))).drew
  refine ⟨rfl, A3, n + 1, k3, B5, m + 1, k5, ?_, (Only.setCell (only_step HO4.out HL4.out (Lay_.refl _ _) HO6.out) (p := ⟨P, 2, none⟩) (.inl rfl) (.int .i64 (max t.full ((m : Int) + 1)))).drew, HL4.out, (Lay_.refl w B).trans HL6.out hs4⟩
  exact hm7

theorem exchanged_up (r : Int) (w : World) (h : 65 ≤ r ∧ r ≤ 72) :
    Calls Try.prog 39 #[.int .u8 r] w fun e w' => e = .returned (.int .u8 (r + 32)) ∧ w = w' := by
  obtain rfl | rfl | rfl | rfl | rfl | rfl | rfl | rfl : r = 65 ∨ r = 66 ∨ r = 67 ∨ r = 68 ∨ r = 69 ∨ r = 70 ∨ r = 71 ∨ r = 72 := by omega
  all_goals
    go_enter Try.func39, Try.ntmps39
    go_wp2
    go_ret
    exact ⟨rfl, rfl⟩
theorem exchanged_down (r : Int) (w : World) (h : 97 ≤ r ∧ r ≤ 104) :
    Calls Try.prog 39 #[.int .u8 r] w fun e w' => e = .returned (.int .u8 (r - 32)) ∧ w = w' := by
  obtain rfl | rfl | rfl | rfl | rfl | rfl | rfl | rfl : r = 97 ∨ r = 98 ∨ r = 99 ∨ r = 100 ∨ r = 101 ∨ r = 102 ∨ r = 103 ∨ r = 104 := by omega
  all_goals
    go_enter Try.func39, Try.ntmps39
    go_wp2
    go_ret
    exact ⟨rfl, rfl⟩

set_option maxRecDepth 100000 in
set_option maxHeartbeats 2000000 in
theorem unload_any (P base : Nat) (t : Trip) (A : Option Addr) (n c : Nat) (B : Option Addr) (m d : Nat) (x : UInt8) (w : World) (h : TripW w P base t A n c B m d) (hm : m ≤ 100) (hx : ∀ y ∈ t.op, 0 ≤ y ∧ y ≤ 255) :
    Calls Try.prog 63 #[.pointer (some ⟨P, 0, none⟩), .int .u8 (x.toNat : Int)] w fun e w' =>
      if atT t.op (x.toNat : Int) = t.op.length then e = .returned (.bool false) ∧ w = w' else e = .returned (.bool true) ∧ TripTo P base ⟨t.ld, t.op.eraseIdx (atT t.op (x.toNat : Int)), t.full, t.blk || decide (atT t.op (x.toNat : Int) + 1 < t.op.length)⟩ A B w w' := by
  obtain ⟨c0, c1, c2, c3⟩ := h.cells
  have f1 := h.free 1
  have f3 := h.free 3
  have hix := bytesIndexByte_any B m d base t.op x w h.op hx
  have hl := h.op.len
  have hle := atT_le t.op (x.toNat : Int)
  obtain ⟨j, hj⟩ : ∃ j, atT t.op (x.toNat : Int) = j := ⟨_, rfl⟩
  by_cases he : atT t.op (x.toNat : Int) = t.op.length
  · rw [ixT, if_pos he] at hix
    have HIX := Lib.hid hix
    simp only [if_pos he]
    clear hix h hj he hle
    go_enter Try.func63, Try.ntmps63
    go_wp2_with fail
    refine HIX.out.mono ?_
    rintro e w1 ⟨rfl, rfl⟩
    go_wp2
    go_ret
    exact ⟨rfl, rfl⟩
  rw [ixT, if_neg he] at hix
  simp only [if_neg he]
  rw [hj] at hix hle he
  simp only [hj]
  have HIX := Lib.hid hix
  have HH := Lib.hid h
  have hjm : j < m := by omega
  obtain ⟨u, hu⟩ : ∃ u, t.op[j]? = some u := ⟨_, List.getElem?_eq_getElem (by omega)⟩
  obtain ⟨g, rfl, _, hgl, hmd, _, _, _⟩ := h.op.at_ hu
  have hw1 : wrap64 ((m : Int) - 1) = (m : Int) - 1 := by unfold wrap64; omega
  have dj : decide ((j : Int) < 0) = false := decide_eq_false (by omega)
  have hq : decide ((j : Int) < (m : Int) - 1) = decide (j + 1 < m) := by by_cases e : j + 1 < m; rw [decide_eq_true e, decide_eq_true (by omega)]; rw [decide_eq_false e, decide_eq_false (by omega)]
  simp only [hl]
  obtain ⟨q, hqq⟩ : ∃ q, decide (j + 1 < m) = q := ⟨_, rfl⟩
  rw [hqq] at hq
  simp only [hqq]
  clear hix h hj he hle hu hqq
  cases q
  · have HD := Lib.hid (deleteB_any g m d base j t.op w HH.out.op hjm)
    have hm1 : m - 1 ≤ m := by omega
    go_enter Try.func63, Try.ntmps63
    go_wp2_with fail
    refine HIX.out.mono ?_
    rintro e w1 ⟨rfl, rfl⟩
    go_wp2_with fail
    refine HD.out.mono ?_
    rintro e w2 ⟨rfl, hr, ho⟩
    obtain ⟨ht, ho3⟩ := HH.out.out j hr ho
    have k1 := cell_of ((ho.block P HH.out.lt (fun e => HH.out.ap2 g rfl e.symm)).trans HH.out.self) 1
    have kf := frozen_of ((ho.block P HH.out.lt (fun e => HH.out.ap2 g rfl e.symm)).trans HH.out.self) 1
    have HT := Lib.hid ht
    have HO := Lib.hid ho3
    clear ht ho3 hr ho
    go_wp2
    go_ret
    exact ⟨rfl, A, n, c, some ⟨g, 0, none⟩, m - 1, d, by simpa using HT.out, HO.out, Lay_.refl _ _, Lay_.refl _ _⟩
  · have HHB := Lib.hid (HH.out.blocked)
    have HD := Lib.hid (deleteB_any g m d base j t.op (w.setCell ⟨P, 3, none⟩ (.bool true)) HHB.out.op hjm)
    have hm1 : m - 1 ≤ m := by omega
    obtain ⟨b0, b1, b2, b3⟩ := HHB.out.cells
    go_enter Try.func63, Try.ntmps63
    go_wp2_with fail
    refine HIX.out.mono ?_
    rintro e w1 ⟨rfl, rfl⟩
    go_wp2_with fail
    refine HD.out.mono ?_
    rintro e w2 ⟨rfl, hr, ho⟩
    obtain ⟨ht, ho3⟩ := HHB.out.out j hr ho
    have k1 := cell_of ((ho.block P HHB.out.lt (fun e => HHB.out.ap2 g rfl e.symm)).trans HHB.out.self) 1
    have kf := frozen_of ((ho.block P HHB.out.lt (fun e => HHB.out.ap2 g rfl e.symm)).trans HHB.out.self) 1
    have HT := Lib.hid ht
    have HO := Lib.hid (only_step ((Only.refl (TripS P A (some ⟨g, 0, none⟩)) _).setCell (p := ⟨P, 3, none⟩) (.inl rfl) (.bool true)) (Lay_.refl _ _) (Lay_.refl _ _) ho3)
    clear ht ho3 hr ho
    go_wp2
    go_ret
    exact ⟨rfl, A, n, c, some ⟨g, 0, none⟩, m - 1, d, by simpa using HT.out, HO.out, Lay_.refl _ _, Lay_.refl _ _⟩

theorem stepT_load {t : Trip} {r : Int} (h : isLoad r = true) : stepT t r = if t.ld.contains r = true then none else some ⟨t.ld ++ [r], t.op ++ [r], max t.full ((t.op.length : Int) + 1), t.blk⟩ := by
  unfold stepT; rw [if_pos h]
theorem stepT_unload {t : Trip} {r : Int} (h : isLoad r = false) (h2 : isUnload r = true) : stepT t r = if atT t.op (r + 32) = t.op.length then none else some ⟨t.ld, t.op.eraseIdx (atT t.op (r + 32)), t.full, t.blk || decide (atT t.op (r + 32) + 1 < t.op.length)⟩ := by
  unfold stepT; rw [h, if_neg (by simp), if_pos h2]
theorem stepT_no {t : Trip} {r : Int} (h : isLoad r = false) (h2 : isUnload r = false) : stepT t r = none := by
  unfold stepT; rw [h, h2]; rfl

/-- How following a letter ends. -/
def FollowTo (P base : Nat) (t : Trip) (r : Int) (A B : Option Addr) (w : World) (e : Ending) (w' : World) : Prop :=
  match stepT t r with
  | none => e = .returned (.bool false) ∧ Below w.heap.size w w'
  | some t' => e = .returned (.bool true) ∧ TripTo P base t' A B w w'

theorem TripTo.late {P base : Nat} {t : Trip} {A B : Option Addr} {w w1 w' : World} (h : TripTo P base t A B w1 w') (hb : Below w.heap.size w w1) : TripTo P base t A B w w' := by
  obtain ⟨A', n', c', B', m', d', h1, h2, h3, h4⟩ := h
  refine ⟨A', n', c', B', m', d', h1, (Only.of_below hb (Nat.le_refl _)).trans h2, ?_, ?_⟩
  · rcases h3 with e | ⟨g, e, hg⟩; exact .inl e; exact .inr ⟨g, e, Nat.le_trans hb.size hg⟩
  · rcases h4 with e | ⟨g, e, hg⟩; exact .inl e; exact .inr ⟨g, e, Nat.le_trans hb.size hg⟩
theorem TripW.late {P base : Nat} {t : Trip} {A B : Option Addr} {n c m d : Nat} {w w1 : World} (h : TripW w P base t A n c B m d) (hb : Below w.heap.size w w1) : TripW w1 P base t A n c B m d := by
  have ho := Only.of_below (S := fun _ => False) hb (Nat.le_refl _)
  exact ⟨(hb.block P h.lt).trans h.self, h.ld.only ho fun _ _ h => h, h.op.only ho fun _ _ h => h, h.ap1, h.ap2, h.ap⟩

set_option maxRecDepth 100000 in
set_option maxHeartbeats 2000000 in
theorem follow_any (P base : Nat) (t : Trip) (A : Option Addr) (n c : Nat) (B : Option Addr) (m d : Nat) (r : Int) (w : World) (h : TripW w P base t A n c B m d) (hr : 0 ≤ r) (hn : n ≤ 100) (hm : m ≤ 100) (hbase : base ≤ w.heap.size) (hf : t.full ≤ 1000) (hx : ∀ y ∈ t.op, 0 ≤ y ∧ y ≤ 255) :
    Calls Try.prog 50 #[.pointer (some ⟨P, 0, none⟩), .int .i32 r] w (FollowTo P base t r A B w) := by
  have HL := Lib.hid (containsLoad_any r w hr)
  have HH := Lib.hid h
  have HX := Lib.hid hx
  clear h hx
  by_cases h1 : isLoad r = true
  · have hb := isLoad_true.1 h1
    have hwu : IntKind.u8.wrap r = r := by rw [IntKind.wrap_u8]; omega
    rw [h1] at HL
    have HS := Lib.hid (stepT_load (t := t) h1)
    clear h1
    go_enter Try.func50, Try.ntmps50
    go_wp2_with fail
    refine HL.out.mono ?_
    rintro e w1 ⟨rfl, hb1⟩
    go_wp2_with fail
    refine (load_any P base t A n c B m d r w1 (HH.out.late hb1) hn hm (Nat.le_trans hbase hb1.size) hf).mono ?_
    intro e w2 he
    by_cases hq : t.ld.contains r = true
    · rw [if_pos hq] at he
      obtain ⟨rfl, rfl⟩ := he
      have hsn : stepT t r = none := by rw [HS.out, if_pos hq]
      have HSN := Lib.hid hsn
      clear hsn hq
      go_wp2
      go_ret
      unfold FollowTo
      rw [HSN.out]
      exact ⟨rfl, hb1⟩
    · rw [if_neg hq] at he
      obtain ⟨rfl, hto⟩ := he
      have hsn : stepT t r = _ := HS.out.trans (if_neg hq)
      have HSN := Lib.hid hsn
      have HTO := Lib.hid (hto.late hb1)
      clear hsn hq hto
      go_wp2
      go_ret
      unfold FollowTo
      rw [HSN.out]
      exact ⟨rfl, HTO.out⟩
  · have h1' : isLoad r = false := by simpa using h1
    rw [h1'] at HL
    by_cases h2 : isUnload r = true
    · have hb := isUnload_true.1 h2
      have hwu : IntKind.u8.wrap r = r := by rw [IntKind.wrap_u8]; omega
      have HS := Lib.hid (stepT_unload (t := t) h1' h2)
      obtain ⟨x, hx⟩ : ∃ x : UInt8, (x.toNat : Int) = r + 32 := ⟨(r + 32).toNat.toUInt8, by simp; omega⟩
      have HXX := Lib.hid hx
      clear h1 h1' hx
      go_enter Try.func50, Try.ntmps50
      go_wp2_with fail
      refine HL.out.mono ?_
      rintro e w1 ⟨rfl, hb1⟩
      go_wp2_with fail
      refine (containsUnload_any r w1 hr).mono ?_
      rw [h2]
      rintro e w2 ⟨rfl, hb2⟩
      have hbb := hb1.trans (hb2.mono hb1.size)
      clear hb1 hb2 h2
      go_wp2_with fail
      refine (exchanged_up r _ hb).mono ?_
      rintro e w3 ⟨rfl, rfl⟩
      go_wp2_with fail
      rw [← HXX.out]
      refine (unload_any P base t A n c B m d x w2 (HH.out.late hbb) hm HX.out).mono ?_
      intro e w4 he
      rw [HXX.out] at he
      by_cases hq : atT t.op (r + 32) = t.op.length
      · rw [if_pos hq] at he
        obtain ⟨rfl, rfl⟩ := he
        have hsn : stepT t r = none := by rw [HS.out, if_pos hq]
        have HSN := Lib.hid hsn
        clear hsn hq
        go_wp2
        go_ret
        unfold FollowTo
        rw [HSN.out]
        exact ⟨rfl, hbb⟩
      · rw [if_neg hq] at he
        obtain ⟨rfl, hto⟩ := he
        have hsn : stepT t r = _ := HS.out.trans (if_neg hq)
        have HSN := Lib.hid hsn
        have HTO := Lib.hid (hto.late hbb)
        clear hsn hq hto
        go_wp2
        go_ret
        unfold FollowTo
        rw [HSN.out]
        exact ⟨rfl, HTO.out⟩
    · have h2' : isUnload r = false := by simpa using h2
      have HSN := Lib.hid (stepT_no (t := t) h1' h2')
      clear h1 h1' h2
      go_enter Try.func50, Try.ntmps50
      go_wp2_with fail
      refine HL.out.mono ?_
      rintro e w1 ⟨rfl, hb1⟩
      go_wp2_with fail
      refine (containsUnload_any r w1 hr).mono ?_
      rw [h2']
      rintro e w2 ⟨rfl, hb2⟩
      have hbb := hb1.trans (hb2.mono hb1.size)
      clear hb1 hb2 h2'
      go_wp2
      go_ret
      unfold FollowTo
      rw [HSN.out]
      exact ⟨rfl, hbb⟩
end Go.Proofs.Ytgcljhgpihpfgab

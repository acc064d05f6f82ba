/-
  The written program's places of boxes: what can be taken, and what is put.
  Conditions: at most twelve places.
-/
import Derived.Test.YtgcljhgpihpfgaaLdM
import Derived.Test.YtgcljhgpihpfgaaAppU
namespace Go.Proofs.Ytgcljhgpihpfgaa
set_option linter.unusedVariables false
open Go.RowKit

/-- The boxes on top lie behind 'P'. -/
structure Yard (w : World) (P base : Nat) (tops : List Int) (A : Option Addr) (n c : Nat) : Prop where
  self : w.heap[P]? = some (.cells #[.slice A n c] 49 (0, 0))
  row : OwnU w base A n c tops
  apart : ∀ g, A = some ⟨g, 0, none⟩ → g ≠ P

/-- Can a box come to a place? -/
def canP (tops : List Int) (p c : Int) : Bool := inB p 0 (tops.length : Int) && (decide (p = (tops.length : Int)) || decide (c ≤ tops.getD p.toNat 0))

theorem canTake_any (P base : Nat) (tops : List Int) (A : Option Addr) (n d : Nat) (p c : Int) (w : World) (h : Yard w P base tops A n d) :
    Calls Try.prog 43 #[.pointer (some ⟨P, 0, none⟩), .int .i64 p, .int .u8 c] w fun e w' => e = .returned (.bool (canP tops p c)) ∧ w = w' := by
  have hl := h.row.len
  have hc0 := cell_of h.self 0
  have hv : ((#[.slice A n d] : Array Value)[0]?) = some (.slice A n d) := rfl
  rw [hv] at hc0
  by_cases h1 : p < 0
  · have d1 : decide (p < 0) = true := decide_eq_true h1
    have hr : canP tops p c = false := by rw [canP, inB_false.2 (by omega)]; rfl
    rw [hr]
    clear hr h hv hl
    go_enter Try.func43, Try.ntmps43
    go_wp2
    go_ret
    exact ⟨rfl, rfl⟩
  have d1 : decide (p < 0) = false := decide_eq_false h1
  by_cases h2 : (n : Int) < p
  · have d2 : decide (p > (n : Int)) = true := decide_eq_true h2
    have hr : canP tops p c = false := by rw [canP, hl, inB_false.2 (by omega)]; rfl
    rw [hr]
    clear hr h hv hl
    go_enter Try.func43, Try.ntmps43
    go_wp2
    go_ret
    exact ⟨rfl, rfl⟩
  have d2 : decide (p > (n : Int)) = false := decide_eq_false (by omega)
  have hin : inB p 0 (tops.length : Int) = true := inB_true.2 (by rw [hl]; omega)
  obtain ⟨k, rfl⟩ : ∃ k : Nat, p = k := ⟨p.toNat, by omega⟩
  by_cases h3 : k = n
  · subst h3
    have hr : canP tops (k : Int) c = true := by rw [canP, hin, hl]; simp
    rw [hr]
    clear hr h hv hl hin
    go_enter Try.func43, Try.ntmps43
    go_wp2
    go_ret
    exact ⟨rfl, rfl⟩
  · have d3 : ((k : Int) == (n : Int)) = false := by simp; omega
    obtain ⟨u, hu⟩ : ∃ u, tops[k]? = some u := ⟨_, List.getElem?_eq_getElem (by omega)⟩
    obtain ⟨g, rfl, _, hg, hnc, hkn, q1, f1⟩ := h.row.at_ hu
    have hr : canP tops (k : Int) c = decide (c ≤ u) := by rw [canP, hin, hl, decide_eq_false (by omega), Int.toNat_natCast]; simp [List.getD, hu]
    rw [hr]
    have hki : (k : Int) < (n : Int) := by omega
    clear hr h hl hin hu hv
    go_enter Try.func43, Try.ntmps43
    go_wp2
    go_ret
    exact ⟨rfl, rfl⟩

/-- What a step keeps of the blocks that were there. -/
structure Keep (S : Nat → Prop) (n : Nat) (w w' : World) : Prop where
  os : w'.os = w.os
  tape : w'.tape = w.tape
  output : w'.output = w.output
  size : w.heap.size ≤ w'.heap.size
  block : ∀ k, k < n → ¬ S k → w'.heap[k]? = w.heap[k]?
theorem Only.trans_of {S : Nat → Prop} {w w' w2 : World} (h : Only S w w') (k : Keep S w.heap.size w' w2) : Only S w w2 :=
  ⟨k.os.trans h.os, k.tape.trans h.tape, k.output.trans h.output, Nat.le_trans h.size k.size, fun i hi hs => (k.block i hi hs).trans (h.block i hi hs)⟩
theorem Only.setNew {S : Nat → Prop} {w w' : World} (h : Only S w w') {p : Addr} (hp : S p.block ∨ w.heap.size ≤ p.block) (u : Value) : Only S w (w'.setCell p u) :=
  h.trans_of ⟨rfl, rfl, rfl, by simp [World.setCell], fun k hk hs => Below.heap_setCell _ _ _ _ (fun e => by rcases hp with hp | hp; exact hs (e ▸ hp); omega)⟩
theorem Only.grew {S : Nat → Prop} {w w' w2 : World} (h : Only S w w') {row : Option Nat} (hg : w'.grownBy w2 row) (hr : ∀ g, row = some g → S g ∨ w.heap.size ≤ g) : Only S w w2 :=
  h.trans_of ⟨hg.os, hg.tape, hg.output, hg.size, fun k hk hs => hg.block k (by have := h.size; omega) (fun e => by rcases hr k e.symm with h | h; exact hs h; omega)⟩
theorem OwnU.block {w : World} {base : Nat} {A : Option Addr} {n c : Nat} {xs : List Int} (h : OwnU w base A n c xs) {g : Nat} (hg : (Value.slice A n c).ownBlock = some g) : A = some ⟨g, 0, none⟩ := by
  rcases id h.2 with ⟨h', hn⟩ | ⟨g', cap, cur, h', hb, hg', hnc, _⟩
  · injection h' with h1; subst h1; cases hg
  · injection h' with h1; subst h1; injection hg with hg; have hg : g' = g := hg; rw [hg]

theorem put_end {w w3 : World} {P base k d c3 : Nat} {tops : List Int} {A A3 : Option Addr} {c : Int} (h : Yard w P base tops A k d) (hk : k ≤ 12)
    (hown3 : w3.ownsRow base 5 1 (.slice A3 (k + 1) c3) (k + 1) (tops.map (Value.int .u8) ++ [.int .u8 c])) (hgr3 : (w.alloc (.cells #[.int .u8 c] 5)).grownBy w3 (Value.slice A k d).ownBlock)
    (hor3 : (Value.slice A3 (k + 1) c3).ownBlock = (Value.slice A k d).ownBlock ∨ (Value.slice A3 (k + 1) c3).ownBlock = some (w.alloc (.cells #[.int .u8 c] 5)).heap.size) :
    ∃ g3, A3 = some ⟨g3, 0, none⟩ ∧ Yard (w3.setCell ⟨P, 0, none⟩ (.slice (some ⟨g3, 0, none⟩) (k + 1) c3)) P base (tops ++ [c]) (some ⟨g3, 0, none⟩) (k + 1) c3 ∧
      Only (fun b => b = P ∨ A = some ⟨b, 0, none⟩) w (w3.setCell ⟨P, 0, none⟩ (.slice (some ⟨g3, 0, none⟩) (k + 1) c3)) ∧ (A = some ⟨g3, 0, none⟩ ∨ w.heap.size ≤ g3) := by
  have hown : OwnU w3 base A3 (k + 1) c3 (tops ++ [c]) := by unfold OwnU; rw [List.map_append]; exact hown3
  have hl := h.row.len
  have hP := heap_lt h.self
  obtain ⟨g3, rfl, hbg, hlt, _⟩ := hown.at_ (j := k) (u := c) (by rw [List.getElem?_append_right (by omega), hl, Nat.sub_self]; rfl)
  have hne : some P ≠ (Value.slice A k d).ownBlock := fun e => h.apart P (h.row.block e.symm) rfl
  have hg3 : A = some ⟨g3, 0, none⟩ ∨ w.heap.size ≤ g3 := by
    rcases hor3 with e | e
    · exact .inl (h.row.block e.symm)
    · injection e with e
      have e : g3 = _ := e
      simp at e
      right; omega
  have hgP : g3 ≠ P := by
    rcases hg3 with e | e
    · exact h.apart _ e
    · omega
  have hself : w3.heap[P]? = some (.cells #[.slice A k d] 49 (0, 0)) := (hgr3.block P (by simp; omega) hne).trans ((alloc_old w hP _).trans h.self)
  refine ⟨g3, rfl, ⟨?_, ?_, ?_⟩, ?_, hg3⟩
  · rw [set_self hself]; rfl
  · exact ownsRow_setCell_other hown (fun e => hgP (by injection e)) _
  · intro g e; injection e with e; injection e with e; rw [← e]; exact hgP
  · refine Only.setCell ?_ (.inl rfl) _
    refine Only.grew ((Only.refl _ _).alloc _) hgr3 fun g e => .inl (.inr (h.row.block e))

set_option maxHeartbeats 1000000 in
theorem put_any (P base : Nat) (tops : List Int) (A : Option Addr) (n d k : Nat) (c : Int) (w : World) (h : Yard w P base tops A n d) (hk : k ≤ n) (hn : n ≤ 12) (hbase : base ≤ w.heap.size) :
    Calls Try.prog 44 #[.pointer (some ⟨P, 0, none⟩), .int .i64 (k : Int), .int .u8 c] w fun e w' => e = .returned (.tuple #[]) ∧
      ∃ A' n' d', Yard w' P base (putP tops k c) A' n' d' ∧ Only (fun b => b = P ∨ A = some ⟨b, 0, none⟩) w w' ∧ (A' = A ∨ ∃ g, A' = some ⟨g, 0, none⟩ ∧ w.heap.size ≤ g) := by
  have hl := h.row.len
  have hc0 := cell_of h.self 0
  have fc0 := frozen_of h.self 0
  have hv : ((#[.slice A n d] : Array Value)[0]?) = some (.slice A n d) := rfl
  rw [hv] at hc0
  obtain ⟨i0, hi0, hz0, hz1, hz2⟩ := info_parts u8_info
  have HH := Lib.hid h
  by_cases h3 : k = n
  · subst h3
    have d3 : ((k : Int) == (k : Int)) = true := by simp
    have HOW := Lib.hid (h.row.alloc (.cells #[.int .u8 c] 5))
    have HNW := Lib.hid (cell_of (new_at w (.cells #[.int .u8 c] 5) rfl) 0)
    have hP := heap_lt h.self
    have hne : some P ≠ (Value.slice A k d).ownBlock := fun e => h.apart P (h.row.block e.symm) rfl
    clear h hv
    go_enter Try.func44, Try.ntmps44
    go_wp2_with (at_builtin; refine wpList_append_ownU _ rfl _ _ 41 rfl base 5 i0 Try.underlying41 hi0 hz0 hz1 hz2 _ k _ rfl HOW.out w.heap.size 1 (.int .u8 c) rfl HNW.out rfl (by omega) (by simp; omega) ?_; intro v3 w3 hown3 hgr3 hor3; obtain ⟨A3, c3, rfl⟩ := slice_form hown3; obtain ⟨g3, hA3, hY4, hO4, hn4⟩ := put_end HH.out (by omega) hown3 hgr3 hor3; subst hA3; have hp4 := cell_of hY4.self 0; have hp0 : ((#[.slice (some ⟨g3, 0, none⟩) (k + 1) c3] : Array Value)[0]?) = some (.slice (some ⟨g3, 0, none⟩) (k + 1) c3) := rfl; rw [hp0] at hp4; clear hp0; obtain ⟨g4, e4, _, _, _, _, q4, f4⟩ := hY4.row.at_ (j := k) (u := c) (by rw [List.getElem?_append_right (by omega), hl, Nat.sub_self]; rfl); injection e4 with e4; injection e4 with e4; subst e4; have p3 := cell_of ((hgr3.block P (by simp; omega) hne).trans ((alloc_old w (heap_lt HH.out.self) _).trans HH.out.self)) 0; have p3f := frozen_of ((hgr3.block P (by simp; omega) hne).trans ((alloc_old w (heap_lt HH.out.self) _).trans HH.out.self)) 0; have HY4 := Lib.hid hY4; have HO4 := Lib.hid hO4; clear hY4 hO4 hown3 hgr3 hor3)
    go_wp2
    go_end0
    have hput : (tops ++ [c]).set k c = putP tops k c := by
      rw [putP, if_pos hl.symm]
      apply List.ext_getElem?
      intro j
      by_cases e : j = k
      · subst e; rw [List.getElem?_set_self (by simp; omega), List.getElem?_append_right (by omega), hl, Nat.sub_self]; rfl
      · rw [List.getElem?_set_ne (by omega)]
    have hr5 := HY4.out.row.set k c
    rw [hput] at hr5
    exact ⟨rfl, _, ⟨_, _, ⟨(set_far _ (Ne.symm (HY4.out.apart g3 rfl)) _).trans HY4.out.self, hr5, HY4.out.apart⟩⟩, HO4.out.setNew (p := ⟨g3, k, none⟩) (by rcases hn4 with e | e; exact .inl (.inr e); exact .inr e) _, by rcases hn4 with e | e; exact .inl e.symm; exact .inr ⟨g3, rfl, e⟩⟩
  · have d3 : ((k : Int) == (n : Int)) = false := by simp; omega
    obtain ⟨u, hu⟩ : ∃ u, tops[k]? = some u := ⟨_, List.getElem?_eq_getElem (by omega)⟩
    obtain ⟨g, rfl, _, hg, hnc, hkn, q1, f1⟩ := h.row.at_ hu
    have hki : (k : Int) < (n : Int) := by omega
    have hp : putP tops k c = tops.set k c := by rw [putP, if_neg (by omega)]
    rw [hp]
    clear h hv hp hl hu
    go_enter Try.func44, Try.ntmps44
    go_wp2
    go_end0
    exact ⟨rfl, _, _, _, ⟨(set_far w (Ne.symm (HH.out.apart g rfl)) _).trans HH.out.self, HH.out.row.set k c, HH.out.apart⟩, (Only.refl _ _).setCell (p := ⟨g, k, none⟩) (.inr rfl) _, .inl rfl⟩
end Go.Proofs.Ytgcljhgpihpfgaa

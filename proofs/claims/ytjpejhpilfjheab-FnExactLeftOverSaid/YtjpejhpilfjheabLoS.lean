/-
  The law's own bulk of a list of lists.
  Conditions: no list has more numbers than memory holds.
-/
import Derived.Test.YtjpejhpilfjheabLoC
import Derived.Deep.Matrix
namespace Go.Proofs.Ytjpejhpilfjheab
set_option linter.unusedVariables false
set_option linter.unusedSimpArgs false
open Go.RowKit

theorem szIntS_yes (A : Option Addr) (n c : Nat) (l : Int) (w : World) (hl : l ≤ 1048576) (h : (n : Int) ≤ l) :
    Calls Try.prog 35 #[.slice A n c, .int .i64 l] w fun e w' => e = .returned (.int .i64 (l - n)) ∧ w = w' := by
  have hw : IntKind.i64.wrap (l - n) = l - n := by rw [IntKind.wrap_i64]; omega
  have hd : decide (l - n < 0) = false := decide_eq_false (by omega)
  go_enter Try.func35, Try.ntmps35
  go_wp2
  go_ret
  exact ⟨rfl, rfl⟩
theorem szIntS_no (A : Option Addr) (n c : Nat) (l : Int) (w : World) (h0 : 0 ≤ l) (hl : l ≤ 1048576) (hn : n ≤ 9223372036854775807) (h : ¬ (n : Int) ≤ l) :
    Calls Try.prog 35 #[.slice A n c, .int .i64 l] w fun e w' => e = .returned (.int .i64 (-1)) ∧ w = w' := by
  have hw : IntKind.i64.wrap (l - n) = l - n := by rw [IntKind.wrap_i64]; omega
  have hd : decide (l - n < 0) = true := decide_eq_true (by omega)
  go_enter Try.func35, Try.ntmps35
  go_wp2
  go_ret
  exact ⟨rfl, rfl⟩

/-- The bulk: how many lists, and how many numbers. -/
def bulk (xss : List (List Int)) : Nat := xss.length + sums xss xss.length
set_option maxRecDepth 100000 in
set_option maxHeartbeats 1000000 in
theorem szIntSS_any (A : Option Addr) (n c : Nat) (xss : List (List Int)) (hi : Nat) (w : World) (hn : xss.length = n) (hlen : n ≤ 9223372036854775807) (hx : ∀ xs ∈ xss, xs.length ≤ 9223372036854775807) (h : RowsIn w hi A xss) :
    Calls Try.prog 9 #[.slice A n c, .int .i64 1048576] w fun e w' => e = .returned (.int .i64 (if bulk xss ≤ 1048576 then 1048576 - (bulk xss : Int) else -1)) ∧ w = w' := by
  have HN := Lib.hid hn
  have HX := Lib.hid hx
  have HR := Lib.hid h
  have hbk : bulk xss = n + sums xss n := by rw [bulk, hn]
  have HBK := Lib.hid hbk
  obtain ⟨rv, hrv⟩ : ∃ rv : Int, (if bulk xss ≤ 1048576 then 1048576 - (bulk xss : Int) else -1) = rv := ⟨_, rfl⟩
  rw [hrv]
  have HRV := Lib.hid hrv
  clear hx h hbk hrv
  by_cases hbig : n ≤ 1048576
  · have hw : IntKind.i64.wrap (1048576 - (n : Int)) = 1048576 - (n : Int) := by rw [IntKind.wrap_i64]; omega
    have hd : decide (1048576 - (n : Int) < 0) = false := decide_eq_false (by omega)
    clear hn
    go_enter Try.func9, Try.ntmps9
    go_wp2
    go_loopw [1, 5] (fun l i wr => ∃ k : Nat, k ≤ n ∧ i = .int .i64 (k : Int) ∧ l = .int .i64 (1048576 - (n : Int) - (sums xss k : Int)) ∧ Hid (n + sums xss k ≤ 1048576) ∧ wr = w) (fun _ i _ => n - (intOf i).toNat)
    case atStart => exact ⟨0, Nat.zero_le _, rfl, by simp [sums], by simp [sums, Hid]; omega, rfl⟩
    case round =>
      obtain ⟨k, hk, rfl, rfl, hle, rfl⟩ := hrel
      have hle1 := hle.out
      obtain ⟨s, hs⟩ : ∃ s, sums xss k = s := ⟨_, rfl⟩
      rw [hs] at hle1 ⊢
      have HS := Lib.hid hs
      clear hs hle
      by_cases hlt : k < n
      · obtain ⟨xs, hxs⟩ : ∃ xs, xss[k]? = some xs := ⟨_, List.getElem?_eq_getElem (by rw [HN.out]; exact hlt)⟩
        obtain ⟨b, off, D, dc, rfl, hbh, hcell, hseg⟩ := HR.out.at_ hxs
        have hlI : (k : Int) < (n : Int) := by omega
        obtain ⟨pl, hpl⟩ : ∃ pl, xs.length = pl := ⟨_, rfl⟩
        have hpm : pl ≤ 9223372036854775807 := by rw [← hpl]; exact HX.out xs (List.mem_of_getElem? hxs)
        have hone := sums_one hxs
        rw [HN.out, hpl, HS.out] at hone
        have HNX := Lib.hid (show sums xss (k + 1) = s + pl by rw [sums_next hxs, HS.out, hpl])
        rw [hpl] at hcell
        obtain ⟨lv, hlv⟩ : ∃ lv : Int, 1048576 - (n : Int) - (s : Int) = lv := ⟨_, rfl⟩
        have hlv0 : 0 ≤ lv ∧ lv ≤ 1048576 := by omega
        have HLV := Lib.hid hlv
        rw [hlv]
        have HONE := Lib.hid hone
        clear hxs hseg hpl hlv hone
        by_cases hfit : (pl : Int) ≤ lv
        · have HF := Lib.hid hfit
          go_wp2_with fail
          refine (szIntS_yes D pl dc lv _ hlv0.2 hfit).mono ?_
          rintro e w1 ⟨rfl, rfl⟩
          have hd2 : decide (lv - (pl : Int) < 0) = false := decide_eq_false (by omega)
          clear hfit
          go_wp2
          go_roundw
          case rel => exact ⟨k + 1, by omega, by go_num, by rw [HNX.out, ← HLV.out]; congr 1; push_cast; omega, by show n + sums xss (k + 1) ≤ 1048576; rw [HNX.out]; have := HLV.out; have := HF.out; omega, by first | rfl | trivial⟩
          case measure => simp [intOf]; omega
        · have hrm : rv = -1 := by rw [← HRV.out, if_neg (by rw [HBK.out]; have := HLV.out; have := HONE.out; omega)]
          have HRM := Lib.hid hrm
          have HNF := Lib.hid hfit
          clear hfit hrm
          go_wp2_with fail
          refine (szIntS_no D pl dc lv _ hlv0.1 hlv0.2 hpm (by have := HNF.out; omega)).mono ?_
          rintro e w1 ⟨rfl, rfl⟩
          go_wp2
          go_ret
          exact ⟨by rw [HRM.out]; rfl, rfl⟩
      · obtain rfl : k = n := by omega
        have HRES := Lib.hid (show rv = 1048576 - (k : Int) - (s : Int) by rw [← HRV.out, HBK.out, HS.out, if_pos hle1]; push_cast; omega)
        go_wp2
        go_ret
        exact ⟨by rw [HRES.out]; rfl, rfl⟩
  · have hw : IntKind.i64.wrap (1048576 - (n : Int)) = 1048576 - (n : Int) := by rw [IntKind.wrap_i64]; omega
    have hd : decide (1048576 - (n : Int) < 0) = true := decide_eq_true (by omega)
    have HRES := Lib.hid (show rv = -1 by rw [← HRV.out, if_neg (by rw [HBK.out]; omega)])
    clear hn
    go_enter Try.func9, Try.ntmps9
    go_wp2
    go_ret
    exact ⟨by rw [HRES.out]; rfl, rfl⟩

theorem RowsIn.keep {w w' : World} {hi : Nat} {A : Option Addr} {xss : List (List Int)} (h : RowsIn w hi A xss) (hk : ∀ b, b < hi → w'.heap[b]? = w.heap[b]?) : RowsIn w' hi A xss := by
  rcases h with h | ⟨b, off, e, h1, h2⟩
  · exact .inl h
  · refine .inr ⟨b, off, e, h1, fun k xs hx => ?_⟩
    obtain ⟨D, c, h3, h4⟩ := h2 k xs hx
    exact ⟨D, c, (World.cell?_of_block (a := ⟨b, off + k, none⟩) (hk b h1)).trans h3, h4.keep fun p _ hp => World.cell?_of_block (hk p.block hp)⟩
theorem RowsIn.only {S : Nat → Prop} {w w' : World} {hi : Nat} {A : Option Addr} {xss : List (List Int)} (h : RowsIn w hi A xss) (ho : Only S w w') (hB : hi ≤ w.heap.size) (hr : ∀ g, S g → g < 0 ∨ hi ≤ g) : RowsIn w' hi A xss :=
  h.keep fun b hb => ho.block b (by omega) (fun e => by have := hr b e; omega)
theorem RowsIn.grown {w w' : World} {row : Option Nat} {hi : Nat} {A : Option Addr} {xss : List (List Int)} (h : RowsIn w hi A xss) (hg : w.grownBy w' row) (hB : hi ≤ w.heap.size) (hr : ∀ g, row = some g → g < 0 ∨ hi ≤ g) : RowsIn w' hi A xss :=
  h.keep fun b hb => hg.block b (by omega) (fun e => by have := hr b e.symm; omega)
theorem bulk_facts {xss : List (List Int)} (h : bulk xss ≤ 1048576) : xss.length ≤ 1048576 ∧ sums xss xss.length ≤ 1048576 ∧ ∀ xs ∈ xss, xs.length ≤ 1048576 := by
  rw [bulk] at h
  refine ⟨by omega, by omega, fun xs hx => ?_⟩
  obtain ⟨k, hk⟩ := List.getElem?_of_mem hx
  have := sums_one hk
  omega
/-- An argument that was read as lists is such a row. -/
theorem open_lists {H : Type} {enc : TypeId × Value → H} {w : World} {held : Bool} {fuel : Nat} {a0 : Option Addr} {len cap : Nat} {x : DataW H × List MemPlace}
    (h : DataW.trod enc Try.prog w 0 (fun _ => true) held fuel 23 (Value.slice a0 len cap).cells.toList = some x) : len ≤ 9223372036854775807 ∧ ∃ zs : List (List Int), (∀ p ∈ zs, p.length ≤ 9223372036854775807) ∧ zs.length = len ∧ RowsIn w w.heap.size a0 zs := by
  have hm : maxLen ≤ 9223372036854775807 := by decide
  rcases Go.Deep.open_int_rows Try.underlying23 Try.underlying22 Try.underlying3 (by kernel_rfl) (by kernel_rfl) h with ⟨hcs, _⟩ | ⟨a, l, c, Ar, L, C, Z, hcs, _, hl, hcm, _, hx⟩
  · simp [Value.cells] at hcs
    obtain ⟨rfl, rfl, rfl⟩ := hcs
    exact ⟨by omega, [], by simp, rfl, .inl rfl⟩
  · simp [Value.cells] at hcs
    obtain ⟨rfl, rfl, rfl⟩ := hcs
    refine ⟨by omega, (List.range len).map fun r => (Z r).take (L r), fun p hp => ?_, by simp, ?_⟩
    · obtain ⟨r, hr, rfl⟩ := List.mem_map.1 hp
      have hr := List.mem_range.1 hr
      obtain ⟨_, h1, h2, h3, _⟩ := hx r (by omega)
      rw [List.length_take]; omega
    · rcases Nat.eq_zero_or_pos len with rfl | hpos
      · exact .inl rfl
      · obtain ⟨b, off, spot⟩ := a
        have h0 := (hx 0 (by omega)).1
        have hlt := cell_lt h0
        obtain rfl : spot = none := by simpa [Addr.add] using World.cell?_spot h0
        refine .inr ⟨b, off, rfl, by simpa [Addr.add] using hlt, fun k xs hk => ?_⟩
        rw [List.getElem?_map] at hk
        obtain ⟨r, hr, rfl⟩ := Option.map_eq_some_iff.1 hk
        obtain ⟨hrl, hre⟩ := List.getElem?_eq_some_iff.1 hr
        rw [List.length_range] at hrl
        rw [List.getElem_range] at hre
        subst hre
        obtain ⟨hc, h1, h2, h3, _, h5, h6⟩ := hx k (by omega)
        rw [Addr.add_lit] at hc
        refine ⟨Ar k, C k, by rw [List.length_take, h3, Nat.min_eq_left h1]; exact hc, ?_⟩
        cases hA : Ar k with
        | none => exact .inl (by rw [List.length_eq_zero_iff.1 (show (Z k).length = 0 by rw [h3]; exact h5 hA)]; simp)
        | some a' => exact seg_of h1 h3 (fun i hi => (h6 a' hA).2 i (by omega))
end Go.Proofs.Ytjpejhpilfjheab

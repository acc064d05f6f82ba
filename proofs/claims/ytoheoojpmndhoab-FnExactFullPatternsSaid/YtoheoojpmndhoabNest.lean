/-
  Lists of lists of numbers in memory; the law's own comparison of two, what it writes into them and its look at what it wrote.
  Conditions: at most 1048576 lists; together at most 1048576 numbers.
-/
import Derived.Test.YtoheoojpmndhoabArr
import Derived.Test.YtoheoojpmndhoabCopy
import Derived.Test.YtoheoojpmndhoabEq
import Derived.Test.YtoheoojpmndhoabMem
import Derived.Deep.RegionHeld3
namespace Go.Proofs.Ytoheoojpmndhoab
set_option linter.unusedVariables false
open Go.RowKit

/-- Lists of numbers in memory: the outer row at the head of a block, each list at the head of a block of its own. -/
def Nest (w : World) (lo hi : Nat) (A : Option Addr) (xss : List (List Int)) : Prop :=
  xss = [] ∨ ∃ (g : Nat) (cs : Array Value) (T : Nat) (bl : Nat → Nat), A = some ⟨g, 0, none⟩ ∧ lo ≤ g ∧ g < hi ∧ w.heap[g]? = some (.cells cs T (0, 0)) ∧
    (∀ (k : Nat) xs, xss[k]? = some xs → ∃ B c, cs[k]? = some (.slice B xs.length c) ∧ Own w lo hi B xs ∧ (xs ≠ [] → B = some ⟨bl k, 0, none⟩ ∧ bl k ≠ g)) ∧
    ∀ i j xs ys, xss[i]? = some xs → xss[j]? = some ys → xs ≠ [] → ys ≠ [] → i ≠ j → bl i ≠ bl j

section
variable {w w' : World} {lo hi lo' hi' : Nat} {A : Option Addr} {xss : List (List Int)}
theorem Nest.nil_ : Nest w lo hi A [] := .inl rfl
theorem Nest.keep (h : Nest w lo hi A xss) (hk : ∀ b, lo ≤ b → b < hi → w'.heap[b]? = w.heap[b]?) : Nest w' lo hi A xss := by
  rcases h with h | ⟨g, cs, T, bl, rfl, h1, h2, hb, hr, hd⟩
  · exact .inl h
  · exact .inr ⟨g, cs, T, bl, rfl, h1, h2, (hk g h1 h2).trans hb, fun k xs hx => by
      obtain ⟨B, c, e1, e2, e3⟩ := hr k xs hx
      exact ⟨B, c, e1, e2.keep hk, e3⟩, hd⟩
theorem Nest.below {B : Nat} (h : Nest w lo hi A xss) (hb : Below B w w') (hB : hi ≤ B) : Nest w' lo hi A xss := h.keep fun b _ h2 => hb.block b (by omega)
theorem Nest.only {S : Nat → Prop} (h : Nest w lo hi A xss) (ho : Only S w w') (hB : hi ≤ w.heap.size) (hr : ∀ g, S g → g < lo ∨ hi ≤ g) : Nest w' lo hi A xss :=
  h.keep fun b h1 h2 => ho.block b (by omega) (fun hs => by rcases hr b hs with h | h <;> omega)
theorem Nest.grown {row : Option Nat} (h : Nest w lo hi A xss) (hg : w.grownBy w' row) (hB : hi ≤ w.heap.size) (hr : ∀ g, row = some g → g < lo ∨ hi ≤ g) : Nest w' lo hi A xss :=
  h.keep fun b h1 h2 => hg.block b (by omega) (fun e => by rcases hr b e.symm with h | h <;> omega)
theorem Nest.more (h : Nest w lo hi A xss) (hl : lo' ≤ lo) (hh : hi ≤ hi') : Nest w lo' hi' A xss := by
  rcases h with h | ⟨g, cs, T, bl, rfl, h1, h2, hb, hr, hd⟩
  · exact .inl h
  · exact .inr ⟨g, cs, T, bl, rfl, by omega, by omega, hb, fun k xs hx => by
      obtain ⟨B, c, e1, e2, e3⟩ := hr k xs hx
      exact ⟨B, c, e1, e2.more hl hh, e3⟩, hd⟩
theorem Nest.at_ (h : Nest w lo hi A xss) {k : Nat} {xs : List Int} (hk : xss[k]? = some xs) :
    ∃ g B c, A = some ⟨g, 0, none⟩ ∧ lo ≤ g ∧ g < hi ∧ w.cell? ⟨g, k, none⟩ = some (.slice B xs.length c) ∧ Own w lo hi B xs := by
  rcases h with rfl | ⟨g, cs, T, bl, rfl, h1, h2, hb, hr, _⟩
  · cases hk
  · obtain ⟨B, c, e1, e2, _⟩ := hr k xs hk
    exact ⟨g, B, c, rfl, h1, h2, (cell_of hb k).trans e1, e2⟩
end

set_option maxHeartbeats 400000 in
theorem eqIntSS_b (A C : Option Addr) (n c d : Nat) (xss : List (List Int)) (lo hi lo' hi' : Nat) (w : World) (hn : xss.length = n) (hlen : n ≤ 1048576) (hx : ∀ xs ∈ xss, xs.length ≤ 1048576) (h : Nest w lo hi A xss) (h' : Nest w lo' hi' C xss) (hB : hi ≤ w.heap.size) (hB' : hi' ≤ w.heap.size) :
    Calls Try.prog 9 #[.slice A n c, .slice C n d] w fun e w' => e = .returned (.bool true) ∧ Below w.heap.size w w' := by
  have HN := Lib.hid hn
  have HX := Lib.hid hx
  clear hn hx
  go_enter Try.func9, Try.ntmps9
  go_wp2_with fail
  go_loopw [5] (fun i wr => ∃ k : Nat, k ≤ n ∧ i = .int .i64 k ∧ Below w.heap.size w wr) (fun i _ => n - (intOf i).toNat)
  case atStart => exact ⟨0, Nat.zero_le _, rfl, Below.refl _ _⟩
  case round =>
    obtain ⟨k, hk, rfl, hb⟩ := hrel
    by_cases hlt : k < n
    · obtain ⟨xs, hxs⟩ : ∃ xs, xss[k]? = some xs := ⟨_, List.getElem?_eq_getElem (by rw [HN.out]; exact hlt)⟩
      obtain ⟨g, B, cb, rfl, _, _, hc, ho⟩ := (h.below hb hB).at_ hxs
      obtain ⟨g', B', cb', rfl, _, _, hc', ho'⟩ := (h'.below hb hB').at_ hxs
      obtain ⟨m, hm⟩ : ∃ m, xs.length = m := ⟨_, rfl⟩
      rw [hm] at hc hc'
      have HM := Lib.hid hm
      have hml : m ≤ 1048576 := by rw [← hm]; exact HX.out xs (List.mem_of_getElem? hxs)
      have HO := Lib.hid (show Seg wr.drew lo hi B xs from ho.seg)
      have HO' := Lib.hid (show Seg wr.drew lo' hi' B' xs from ho'.seg)
      clear hxs hm ho ho'
      go_wp2_with fail
      refine wp_region_held_drew (S := (fun wq => wq.cell? ⟨g, k, none⟩ = some (.slice B m cb) ∧ wq.cell? ⟨g', k, none⟩ = some (.slice B' m cb'))) (by kernel_rfl) ⟨hc, hc'⟩ (fun hH0 => ?_)
      refine wpAnyH_take (i := 0) (v := ?_) (ops_at rfl) (by kernel_rfl) (by kernel_rfl) (by kernel_rfl) (fun _ _ _ h => h) (Or.inl ⟨by rfl, ?ye0⟩) (by assumption) ?ne0
      case ye0 => (intro wS hSw; (try dsimp only at hSw); go_simp; try rfl)
      try simp only [Act.put, List.setIfInBounds_toArray, List.set_cons_zero, List.set_cons_succ]
      refine wpAnyH_take (i := 1) (v := ?_) (ops_at rfl) (by kernel_rfl) (by kernel_rfl) (by kernel_rfl) (fun _ _ _ h => h) (Or.inl ⟨by rfl, ?ye1⟩) (by assumption) ?ne1
      case ye1 => (intro wS hSw; (try dsimp only at hSw); go_simp; try rfl)
      try simp only [Act.put, List.setIfInBounds_toArray, List.set_cons_zero, List.set_cons_succ]
      refine wpAnyH_take (i := 2) (v := ?_) (ops_at rfl) (by kernel_rfl) (by kernel_rfl) (by kernel_rfl) (fun _ _ _ h => h) (Or.inl ⟨by rfl, ?ye2⟩) (by assumption) ?ne2
      case ye2 => (intro wS hSw; (try dsimp only at hSw); go_simp; try rfl)
      try simp only [Act.put, List.setIfInBounds_toArray, List.set_cons_zero, List.set_cons_succ]
      refine wpAnyH_take (i := 3) (v := ?_) (ops_at rfl) (by kernel_rfl) (by kernel_rfl) (by kernel_rfl) (fun _ _ _ h => h) (Or.inl ⟨by rfl, ?ye3⟩) (by assumption) ?ne3
      case ye3 => (intro wS hSw; (try dsimp only at hSw); go_simp; try rfl)
      try simp only [Act.put, List.setIfInBounds_toArray, List.set_cons_zero, List.set_cons_succ]
      refine wpAnyH_take (i := 4) (v := ?_) (ops_at rfl) (by kernel_rfl) (by kernel_rfl) (by kernel_rfl) (fun _ _ _ h => h) (Or.inl ⟨by rfl, ?ye4⟩) (by assumption) ?ne4
      case ye4 => (intro wS hSw; (try dsimp only at hSw); go_simp; try rfl)
      try simp only [Act.put, List.setIfInBounds_toArray, List.set_cons_zero, List.set_cons_succ]
      refine wpAnyH_take (i := 5) (v := ?_) (ops_at rfl) (by kernel_rfl) (by kernel_rfl) (by kernel_rfl) (fun _ _ _ h => h) (Or.inl ⟨by rfl, ?ye5⟩) (by assumption) ?ne5
      case ye5 => (intro wS hSw; (try dsimp only at hSw); go_simp; try rfl)
      try simp only [Act.put, List.setIfInBounds_toArray, List.set_cons_zero, List.set_cons_succ]
      refine wpAnyH_take (i := 6) (v := ?_) (ops_at rfl) (by kernel_rfl) (by kernel_rfl) (by kernel_rfl) (fun _ _ _ h => h) (Or.inl ⟨by rfl, ?ye6⟩) (by assumption) ?ne6
      case ye6 => (intro wS hSw; (try dsimp only at hSw); go_simp; try rfl)
      try simp only [Act.put, List.setIfInBounds_toArray, List.set_cons_zero, List.set_cons_succ]
      refine wpAnyH_take (i := 7) (v := ?_) (ops_at rfl) (by kernel_rfl) (by kernel_rfl) (by kernel_rfl) (fun _ _ _ h => h) (Or.inl ⟨by rfl, ?ye7⟩) (by assumption) ?ne7
      case ye7 => (intro wS hSw; (try dsimp only at hSw); go_simp; try rfl)
      try simp only [Act.put, List.setIfInBounds_toArray, List.set_cons_zero, List.set_cons_succ]
      refine wpAnyH_ready (rs := [8]) (by kernel_rfl) (by simp) ?_
      refine AllReadyH.cons (ops_at rfl) (fun K hK => ?_) AllReadyH.nil
      go_simp
      refine (eqIntS_b B B' m cb cb' xs lo hi lo' hi' wr.drew HM.out hml HO.out HO'.out).mono ?_
      rintro e w2 ⟨rfl, hb2⟩
      have hb3 := undrew hb2
      dsimp only
      refine hK.out _ _ ⟨(hb3.cell (cell_lt hc)).trans hc, (hb3.cell (cell_lt hc')).trans hc'⟩ (fun hHe8 => ?_)
      clear hK K
      refine wpAnyH_take (i := 9) (v := ?_) (ops_at rfl) (by kernel_rfl) (by kernel_rfl) (by kernel_rfl) (fun _ _ _ h => h) (Or.inl ⟨by rfl, ?ye9⟩) (by assumption) ?ne9
      case ye9 => (intro wS hSw; (try dsimp only at hSw); go_simp; try rfl)
      try simp only [Act.put, List.setIfInBounds_toArray, List.set_cons_zero, List.set_cons_succ]
      refine wpAnyH_done (by kernel_rfl) ?_ _
      go_wp2
      go_roundw
      case rel => exact ⟨k + 1, by omega, by go_num, hb.trans (hb3.mono hb.size)⟩
      case measure => simp [intOf]; omega
    · go_wp2_with fail
      go_ret
      exact ⟨rfl, hb⟩

/-- How many numbers there are in the first 'k' lists. -/
def sums (xss : List (List Int)) (k : Nat) : Nat := ((xss.take k).map List.length).sum
theorem sums_next {xss : List (List Int)} {k : Nat} {xs : List Int} (h : xss[k]? = some xs) : sums xss (k + 1) = sums xss k + xs.length := by
  simp [sums, List.take_add_one, h]
theorem sums_mono (xss : List (List Int)) (k : Nat) : sums xss k ≤ sums xss xss.length := by
  have e : xss = xss.take k ++ xss.drop k := (List.take_append_drop k xss).symm
  have h : sums xss xss.length = (xss.map List.length).sum := by rw [sums, List.take_length]
  rw [h, sums]
  conv => rhs; rw [e]
  rw [List.map_append, List.sum_append]
  omega
theorem sums_one {xss : List (List Int)} {k : Nat} {xs : List Int} (h : xss[k]? = some xs) : sums xss k + xs.length ≤ sums xss xss.length := by
  rw [← sums_next h]
  exact sums_mono xss _

/-- What the marks are, list by list. -/
def marksN (k0 : Int) (xss : List (List Int)) : List (List Int) := (List.range xss.length).map fun i => marks (k0 + (sums xss i : Nat)) (xss.getD i []).length
theorem marksN_length (k0 : Int) (xss : List (List Int)) : (marksN k0 xss).length = xss.length := by simp [marksN]
theorem marksN_at (k0 : Int) {xss : List (List Int)} {k : Nat} {xs : List Int} (h : xss[k]? = some xs) : (marksN k0 xss)[k]? = some (marks (k0 + (sums xss k : Nat)) xs.length) := by
  have hk := (List.getElem?_eq_some_iff.1 h).1
  have e := (List.getElem?_eq_some_iff.1 h).2
  simp [marksN, hk, e]

theorem heldIntSS_any (A : Option Addr) (n c : Nat) (k0 : Int) (xss : List (List Int)) (lo hi : Nat) (w : World) (hn : xss.length = n) (hlen : n ≤ 1048576) (hx : sums xss xss.length ≤ 1048576) (h0 : 0 ≤ k0) (h1 : k0 ≤ 2305843009213693952) (h : Nest w lo hi A (marksN k0 xss)) :
    Calls Try.prog 13 #[.slice A n c, .int .i64 k0] w fun e w' => e = .returned (.int .i64 (k0 + (sums xss n : Nat))) ∧ w = w' := by
  have HN := Lib.hid hn
  have HX := Lib.hid hx
  clear hn hx
  go_enter Try.func13, Try.ntmps13
  go_wp2_with fail
  go_loop [1, 5] (fun q i => ∃ k : Nat, k ≤ n ∧ q = .int .i64 (k0 + (sums xss k : Nat)) ∧ i = .int .i64 k) (fun _ i => n - (intOf i).toNat)
  case atStart => exact ⟨0, Nat.zero_le _, by simp [sums], rfl⟩
  case round =>
    obtain ⟨k, hk, rfl, rfl⟩ := hrel
    by_cases hlt : k < n
    · obtain ⟨xs, hxs⟩ : ∃ xs, xss[k]? = some xs := ⟨_, List.getElem?_eq_getElem (by rw [HN.out]; exact hlt)⟩
      obtain ⟨g, B, cb, rfl, _, _, hc, ho⟩ := h.at_ (marksN_at k0 hxs)
      rw [marks_length] at hc
      have hs := sums_one hxs
      have HS := Lib.hid (sums_next hxs)
      obtain ⟨m, hm⟩ : ∃ m, xs.length = m := ⟨_, rfl⟩
      obtain ⟨t, ht⟩ : ∃ t, sums xss k = t := ⟨_, rfl⟩
      rw [hm] at hc ho hs HS
      rw [ht] at ho hs HS ⊢
      have hx := HX.out
      have hml : m ≤ 1048576 := by omega
      have htl : t ≤ 1048576 := by omega
      have HO := Lib.hid ho.seg
      clear hxs hm ht ho hs hx
      go_wp2_with fail
      refine (heldIntS_any B m cb (k0 + (t : Nat)) _ _ _ hml (by omega) (by omega) HO.out).mono ?_
      rintro e w2 ⟨rfl, rfl⟩
      have hneg : ¬ (k0 + (t : Int) + (m : Int) < 0) := by omega
      go_wp2
      go_round
      case rel => exact ⟨k + 1, by omega, by rw [HS.out]; push_cast; rw [Int.add_assoc], by go_num⟩
      case measure => simp [intOf]; omega
    · obtain rfl : k = n := by omega
      go_wp2
      go_ret
      exact ⟨rfl, rfl⟩

theorem own_tight {w : World} {lo hi b : Nat} {xs : List Int} (h : Own w lo hi (some ⟨b, 0, none⟩) xs) (hx : xs ≠ []) : (lo ≤ b ∧ b < hi) ∧ Own w b (b + 1) (some ⟨b, 0, none⟩) xs := by
  rcases h with h | ⟨b', cs, T, e, h1, h2, h3, h4⟩
  · exact absurd h hx
  · injection e with e
    injection e with e
    subst e
    exact ⟨⟨h1, h2⟩, .inr ⟨b, cs, T, rfl, Nat.le_refl _, by omega, h3, h4⟩⟩

theorem only_of_grown {S : Nat → Prop} {w w' : World} {row : Option Nat} (h : w.grownBy w' row) (hS : ∀ g, row = some g → S g) : Only S w w' :=
  ⟨h.os, h.tape, h.output, h.size, fun k hk hs => h.block k hk (fun e => hs (hS k e.symm))⟩

theorem own_empty {w : World} {lo hi : Nat} {B : Option Addr} {xs : List Int} (h : xs = []) : Own w lo hi B xs := .inl h
theorem marks_nil (k0 : Int) : marks k0 0 = [] := rfl

set_option maxHeartbeats 1000000 in
theorem markIntSS_any (A : Option Addr) (n c : Nat) (k0 : Int) (xss : List (List Int)) (lo hi : Nat) (w : World) (hn : xss.length = n) (hlen : n ≤ 1048576) (hx : sums xss xss.length ≤ 1048576) (h0 : 0 ≤ k0) (h1 : k0 ≤ 2305843009213693952) (h : Nest w lo hi A xss) :
    Calls Try.prog 12 #[.slice A n c, .int .i64 k0] w fun e w' => e = .returned (.int .i64 (k0 + (sums xss n : Nat))) ∧ Nest w' lo hi A (marksN k0 xss) ∧ Only (fun b => lo ≤ b ∧ b < hi) w w' := by
  rcases h with rfl | ⟨g, cs, T, bl, rfl, hg1, hg2, hb, hr, hd⟩
  · obtain rfl : n = 0 := hn.symm
    go_enter Try.func12, Try.ntmps12
    go_wp2_with fail
    go_loopw [1, 5] (fun k i wr => k = .int .i64 k0 ∧ i = .int .i64 0 ∧ wr = w) (fun _ _ _ => 0)
    case atStart => exact ⟨rfl, rfl, rfl⟩
    case round =>
      obtain ⟨rfl, rfl, rfl⟩ := hrel
      go_wp2_with fail
      go_ret
      exact ⟨by simp [sums], .inl rfl, Only.refl _ _⟩
  · have HN := Lib.hid hn
    have HX := Lib.hid hx
    have HR := Lib.hid hr
    have HD := Lib.hid hd
    have HST := Lib.hid (show ∀ j xs, xss[j]? = some xs → ∀ B cb, cs[j]? = some (.slice B xs.length cb) → Own w (bl j) (bl j + 1) B (if j < 0 then marks (k0 + (sums xss j : Nat)) xs.length else xs) by
      intro j xs hj B cb hB
      rw [if_neg (Nat.not_lt_zero j)]
      by_cases he : xs = []
      · exact .inl he
      · obtain ⟨B', c', e1, e2, e3⟩ := hr j xs hj
        rw [e1] at hB
        injection hB with hB
        injection hB with hB
        subst hB
        obtain ⟨rfl, _⟩ := e3 he
        exact (own_tight e2 he).2)
    have HB := Lib.hid hb
    clear hn hx hr hd hb
    go_enter Try.func12, Try.ntmps12
    go_wp2_with fail
    go_loopw [1, 5] (fun q i wr => ∃ k : Nat, k ≤ n ∧ q = .int .i64 (k0 + (sums xss k : Nat)) ∧ i = .int .i64 k ∧ Only (fun b => lo ≤ b ∧ b < hi) w wr ∧ Hid (wr.heap[g]? = some (.cells cs T (0, 0))) ∧ Hid (∀ j xs, xss[j]? = some xs → ∀ B cb, cs[j]? = some (.slice B xs.length cb) → Own wr (bl j) (bl j + 1) B (if j < k then marks (k0 + (sums xss j : Nat)) xs.length else xs))) (fun _ i _ => n - (intOf i).toNat)
    case atStart => exact ⟨0, Nat.zero_le _, by simp [sums], rfl, Only.refl _ _, HB.out, HST.out⟩
    case round =>
      obtain ⟨k, hk, rfl, rfl, ho, hblk, hrow⟩ := hrel
      have HO := Lib.hid ho
      clear ho
      by_cases hlt : k < n
      · obtain ⟨xs, hxs⟩ : ∃ xs, xss[k]? = some xs := ⟨_, List.getElem?_eq_getElem (by rw [HN.out]; exact hlt)⟩
        obtain ⟨B, cb, e1, e2, e3⟩ := HR.out k xs hxs
        have hc : wr.cell? ⟨g, k, none⟩ = some (.slice B xs.length cb) := (cell_of hblk.out k).trans e1
        have hown := hrow.out k xs hxs B cb e1
        rw [if_neg (Nat.lt_irrefl k)] at hown
        obtain ⟨a, a', hoa, hS⟩ : ∃ a a', Own wr a a' B xs ∧ ∀ g', a ≤ g' → g' < a' → (lo ≤ g' ∧ g' < hi) ∧ g' ≠ g ∧ ∀ j ys, xss[j]? = some ys → ys ≠ [] → j ≠ k → bl j ≠ g' := by
          by_cases he : xs = []
          · exact ⟨0, 0, .inl he, fun g' _ h => by omega⟩
          · obtain ⟨rfl, hne⟩ := e3 he
            refine ⟨bl k, bl k + 1, hown, fun g' h1 h2 => ?_⟩
            obtain rfl : g' = bl k := by omega
            exact ⟨(own_tight e2 he).1, hne, fun j ys hj hy hjk => HD.out j k ys xs hj hxs hy he hjk⟩
        have hs := sums_one hxs
        have HS := Lib.hid (sums_next hxs)
        obtain ⟨m, hm⟩ : ∃ m, xs.length = m := ⟨_, rfl⟩
        obtain ⟨t, ht⟩ : ∃ t, sums xss k = t := ⟨_, rfl⟩
        rw [hm] at hc hs HS
        rw [ht] at hs HS ⊢
        have hxt := HX.out
        have hml : m ≤ 1048576 := by omega
        have htl : t ≤ 1048576 := by omega
        have HM := Lib.hid hm
        have HT := Lib.hid ht
        have HOA := Lib.hid hoa
        have HXS := Lib.hid hxs
        have HE1 := Lib.hid e1
        have HSS := Lib.hid hS
        clear hxs hm ht hs hxt hoa hown e1 e2 e3 hS
        go_wp2_with fail
        refine (markIntS_any B m cb (k0 + (t : Nat)) xs a a' _ HM.out hml (by omega) (by omega) HOA.out).mono ?_
        rintro e w2 ⟨rfl, ho2, row, hg2', hrw⟩
        have hon : Only (fun b => lo ≤ b ∧ b < hi) wr w2 := only_of_grown hg2' (fun g' hg' => (HSS.out g' (hrw g' hg').1 (hrw g' hg').2).1)
        have hblk2 : Hid (w2.heap[g]? = some (.cells cs T (0, 0))) := (hg2'.block g (heap_lt hblk.out) (fun e => by
          have h3 := hrw g e.symm
          exact (HSS.out g h3.1 h3.2).2.1 rfl)).trans hblk.out
        have hrow2 : Hid (∀ j xs, xss[j]? = some xs → ∀ B cb, cs[j]? = some (.slice B xs.length cb) → Own w2 (bl j) (bl j + 1) B (if j < k + 1 then marks (k0 + (sums xss j : Nat)) xs.length else xs)) := by
          intro j ys hj B' cb' hB'
          by_cases hjk : j = k
          · subst hjk
            rw [HXS.out] at hj
            injection hj with hj
            subst hj
            rw [HE1.out] at hB'
            injection hB' with hB'
            injection hB' with hB'
            subst hB'
            rw [if_pos (Nat.lt_succ_self j)]
            by_cases he : xs = []
            · rw [he]; exact .inl rfl
            · rw [HT.out, HM.out]
              rcases ho2 with h | ⟨b', cs', T', e, h1, h2, h3, h4⟩
              · exact absurd (by have := congrArg List.length h; rw [marks_length] at this; rw [← HM.out] at this; exact List.eq_nil_of_length_eq_zero this) he
              · obtain ⟨B2, c2, f1, f2, f3⟩ := HR.out j xs HXS.out
                rw [HE1.out] at f1
                injection f1 with f1
                injection f1 with f1
                obtain ⟨f4, _⟩ := f3 he
                rw [f1, f4] at e
                injection e with e
                injection e with e
                subst e
                refine .inr ⟨_, cs', T', f1.trans f4, Nat.le_refl _, Nat.lt_succ_self _, h3, h4⟩
          · have hold := hrow.out j ys hj B' cb' hB'
            have e : (if j < k + 1 then marks (k0 + (sums xss j : Nat)) ys.length else ys) = (if j < k then marks (k0 + (sums xss j : Nat)) ys.length else ys) := by
              by_cases h : j < k
              · rw [if_pos h, if_pos (by omega)]
              · rw [if_neg h, if_neg (by omega)]
            rw [e]
            by_cases he : ys = []
            · subst he
              refine .inl ?_
              split <;> rfl
            · refine hold.keep fun b h1 h2 => ?_
              obtain rfl : b = bl j := by omega
              refine hg2'.block _ ?_ (fun e => ?_)
              · rcases hold with h | ⟨b', cs', T', _, h1, h2, h3, _⟩
                · exfalso
                  split at h
                  · have := congrArg List.length h
                    rw [marks_length] at this
                    exact he (List.eq_nil_of_length_eq_zero this)
                  · exact he h
                · have := heap_lt h3; omega
              · have h3 := hrw _ e.symm
                exact (HSS.out _ h3.1 h3.2).2.2 j ys hj he hjk rfl
        have HON := Lib.hid (HO.out.trans hon)
        clear hon ho2 hg2' hrw hrow hblk
        go_wp2
        go_roundw
        case rel => exact ⟨k + 1, by omega, by rw [HS.out]; push_cast; rw [Int.add_assoc], by go_num, HON.out, hblk2, hrow2⟩
        case measure => simp [intOf]; omega
      · obtain rfl : k = n := by omega
        have hnest : Hid (Nest wr lo hi (some ⟨g, 0, none⟩) (marksN k0 xss)) := by
          refine .inr ⟨g, cs, T, bl, rfl, hg1, hg2, hblk.out, fun j ys hj => ?_, fun i j ys zs hi' hj hy hz hij => ?_⟩
          · obtain ⟨xs, hxs⟩ : ∃ xs, xss[j]? = some xs := ⟨_, List.getElem?_eq_getElem (by have := (List.getElem?_eq_some_iff.1 hj).1; rwa [marksN_length] at this)⟩
            rw [marksN_at k0 hxs] at hj
            injection hj with hj
            subst hj
            obtain ⟨B, cb, e1, e2, e3⟩ := HR.out j xs hxs
            have h4 := hrow.out j xs hxs B cb e1
            rw [if_pos (by rw [← HN.out]; exact (List.getElem?_eq_some_iff.1 hxs).1)] at h4
            refine ⟨B, cb, by rw [marks_length]; exact e1, ?_, fun hne => e3 (fun h => by subst h; exact hne rfl)⟩
            by_cases he : xs = []
            · subst he; exact .inl rfl
            · obtain ⟨rfl, _⟩ := e3 he
              exact h4.more (own_tight e2 he).1.1 (by have := (own_tight e2 he).1.2; omega)
          · obtain ⟨xs, hxs⟩ : ∃ xs, xss[i]? = some xs := ⟨_, List.getElem?_eq_getElem (by have := (List.getElem?_eq_some_iff.1 hi').1; rwa [marksN_length] at this)⟩
            obtain ⟨xs', hxs'⟩ : ∃ xs, xss[j]? = some xs := ⟨_, List.getElem?_eq_getElem (by have := (List.getElem?_eq_some_iff.1 hj).1; rwa [marksN_length] at this)⟩
            rw [marksN_at k0 hxs] at hi'
            rw [marksN_at k0 hxs'] at hj
            injection hi' with hi'
            injection hj with hj
            subst hi'
            subst hj
            exact HD.out i j xs xs' hxs hxs' (fun h => by subst h; exact hy rfl) (fun h => by subst h; exact hz rfl) hij
        clear hrow hblk
        go_wp2
        go_ret
        exact ⟨rfl, hnest.out, HO.out⟩
end Go.Proofs.Ytoheoojpmndhoab

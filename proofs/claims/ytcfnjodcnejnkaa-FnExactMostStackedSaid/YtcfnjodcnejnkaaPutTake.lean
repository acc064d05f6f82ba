/-
  Both programs put a thing on a stack, and take its top.
  Conditions: the lists have at most 1048576 things and numbers.
-/
import Derived.Test.YtcfnjodcnejnkaaPileH
import Derived.Test.YtcfnjodcnejnkaaSomeN
namespace Go.Proofs.Ytcfnjodcnejnkaa
set_option linter.unusedVariables false
open Go.RowKit

def putB (ts : List (Int × Int × Int)) (ks : List Int) (k : Int) : Bool := bothT ts ks && canT ts.length ks k
def topB (ts : List (Int × Int × Int)) (ks : List Int) : Bool := bothT ts ks && decide (0 < ks.length)
def topI (q : Bool) (ks : List Int) : Int := if q = true then ks.getD (ks.length - 1) 0 else 0

/-- A list, a number and a bool are answered. -/
def RetLIB (b : Bool) (v : Int) (ys : List Int) (w : World) (e : Ending) (w' : World) : Prop :=
  ∃ A n c, e = .returned (.tuple #[.slice A n c, .int .i64 v, .bool b]) ∧ ys.length = n ∧ Own w' w.heap.size w'.heap.size A ys ∧ Below w.heap.size w w'

theorem putB_len {ts : List (Int × Int × Int)} {ks : List Int} {k : Int} (h : putB ts ks k = true) : ks.length ≤ 7 := by
  unfold putB at h
  rw [Bool.and_eq_true] at h
  exact bothT_len h.1

theorem put_cases {ts : List (Int × Int × Int)} {ks : List Int} {k : Int} {q : Bool} {n : Nat} (hn : ts.length = n) (h : putB ts ks k = q) :
    (q = false ∧ bothT ts ks = false) ∨ (q = false ∧ bothT ts ks = true ∧ canT n ks k = false) ∨ (q = true ∧ bothT ts ks = true ∧ canT n ks k = true) := by
  rw [← h, ← hn]; unfold putB
  cases bothT ts ks <;> cases canT ts.length ks k <;> simp
theorem can_cases {n : Nat} {ks : List Int} {k : Int} (h : canT n ks k = false) : inB k 0 ((n : Int) - 1) = false ∨ (inB k 0 ((n : Int) - 1) = true ∧ decide (k ∈ ks) = true) := by
  cases hi : inB k 0 ((n : Int) - 1)
  · exact .inl rfl
  · refine .inr ⟨rfl, decide_eq_true ?_⟩
    rw [inB_true] at hi
    rw [Bool.eq_false_iff] at h
    refine Classical.byContradiction fun hm => h (canT_true.2 ⟨by omega, hm⟩)
theorem can_yes {n : Nat} {ks : List Int} {k : Int} (h : canT n ks k = true) : inB k 0 ((n : Int) - 1) = true ∧ decide (k ∈ ks) = false := by
  obtain ⟨h1, h2⟩ := canT_true.1 h
  exact ⟨inB_true.2 (by omega), decide_eq_false h2⟩

set_option maxRecDepth 100000 in
set_option maxHeartbeats 1000000 in
theorem spec_PutOn (A A2 : Option Addr) (n c m c2 : Nat) (ts : List (Int × Int × Int)) (ks : List Int) (k : Int) (lo hi lo2 hi2 : Nat) (w : World) (hn : ts.length = n) (hlen : n ≤ 1048576) (hm : ks.length = m) (hlen2 : m ≤ 1048576) (hc2 : m ≤ c2)
    (hs : Seg w lo hi A (flat3 ts)) (hB : hi ≤ w.heap.size) (hs2 : Seg w lo2 hi2 A2 ks) (hB2 : hi2 ≤ w.heap.size) (q : Bool) (hq : putB ts ks k = q) :
    Calls Try.prog 26 #[.slice A n c, .slice A2 m c2, .int .i64 k] w (RetL q (someN q (ks ++ [k])) w) := by
  have HN := Lib.hid hn
  have HM := Lib.hid hm
  have hwr : IntKind.i64.wrap ((n : Int) - 1) = (n : Int) - 1 := by rw [IntKind.wrap_i64]; omega
  rcases put_cases hn hq with ⟨rfl, hb⟩ | ⟨rfl, hb, hc⟩ | ⟨rfl, hb, hc⟩
  · have HQ := Lib.hid hb
    clear hn hm hq hb hwr
    go_enter Try.func26, Try.ntmps26
    go_wp2_with fail
    refine (scStack_any A _ n c _ c2 ts _ lo hi lo2 hi2 _ HN.out hlen HM.out hlen2 hc2 hs hB hs2 hB2 _ HQ.out).mono ?_
    rintro e w1 ⟨rfl, hbw1⟩
    go_wp2
    go_ret2
    exact ⟨none, 0, 0, rfl, rfl, Own.nil_, hbw1⟩
  · have HQ := Lib.hid hb
    rcases can_cases hc with hi | ⟨hi, hh⟩
    · have HI := Lib.hid hi
      clear hn hm hq hb hc hi
      go_enter Try.func26, Try.ntmps26
      go_wp2_with fail
      refine (scStack_any A _ n c _ c2 ts _ lo hi lo2 hi2 _ HN.out hlen HM.out hlen2 hc2 hs hB hs2 hB2 _ HQ.out).mono ?_
      rintro e w1 ⟨rfl, hbw1⟩
      go_wp2_with fail
      refine (l1In_any _ _ _ false HI.out _).mono ?_
      rintro e w' ⟨rfl, rfl⟩
      go_wp2
      go_ret2
      exact ⟨none, 0, 0, rfl, rfl, Own.nil_, hbw1⟩
    · have HI := Lib.hid hi
      have HH := Lib.hid hh
      clear hn hm hq hb hc hi hh
      go_enter Try.func26, Try.ntmps26
      go_wp2_with fail
      refine (scStack_any A _ n c _ c2 ts _ lo hi lo2 hi2 _ HN.out hlen HM.out hlen2 hc2 hs hB hs2 hB2 _ HQ.out).mono ?_
      rintro e w1 ⟨rfl, hbw1⟩
      go_wp2_with fail
      refine (l1In_any _ _ _ true HI.out _).mono ?_
      rintro e w' ⟨rfl, rfl⟩
      go_wp2_with fail
      refine (l1Has_any A2 m c2 ks k lo2 hi2 _ HM.out hlen2 (hs2.below hbw1 hB2) true HH.out).mono ?_
      rintro e w' ⟨rfl, rfl⟩
      go_wp2
      go_ret2
      exact ⟨none, 0, 0, rfl, rfl, Own.nil_, hbw1⟩
  · obtain ⟨i0, hi0, hz0, hz1, hz2⟩ := info_parts int_info
    have HQ := Lib.hid hb
    obtain ⟨hi, hh⟩ := can_yes hc
    have HI := Lib.hid hi
    have HH := Lib.hid hh
    have hm7 : m ≤ 7 := by rw [← hm]; exact bothT_len hb
    clear hn hm hq hb hc hi hh
    go_enter Try.func26, Try.ntmps26
    go_wp2_with fail
    refine (scStack_any A _ n c _ c2 ts _ lo hi lo2 hi2 _ HN.out hlen HM.out hlen2 hc2 hs hB hs2 hB2 _ HQ.out).mono ?_
    rintro e w1 ⟨rfl, hbw1⟩
    go_wp2_with fail
    refine (l1In_any _ _ _ true HI.out _).mono ?_
    rintro e w' ⟨rfl, rfl⟩
    go_wp2_with fail
    refine (l1Has_any A2 m c2 ks k lo2 hi2 _ HM.out hlen2 (hs2.below hbw1 hB2) false HH.out).mono ?_
    rintro e w' ⟨rfl, rfl⟩
    have hzw1 := hbw1.size
    have HBW := Lib.hid hbw1
    go_wp2_with fail
    refine (l1Own_any A2 m c2 ks lo2 hi2 _ HM.out (by omega) (hs2.below HBW.out hB2) (by omega)).mono ?_
    rintro e w2 ⟨A4, c4, rfl, hown2, hb2⟩
    have hz2w := hb2.size
    have HOW2 := Lib.hid (hown2.alloc (.cells #[.int .i64 k] 3))
    have HS1 := Lib.hid (seg_one w2 k 3)
    have HLT2 := Lib.hid hown2.lt
    have HB2 := Lib.hid hb2
    clear hown2 hb2
    go_wp2_with (at_builtin; refine wpList_append_seg _ rfl _ _ 29 rfl w1.heap.size 3 i0 Try.underlying29 hi0 hz0 hz1 hz2 _ m _ rfl HOW2.out _ 1 1 [k] _ _ rfl rfl HS1.out (by omega) (by simp; omega) ?_; intro v3 w3 hown3 hgr3; obtain ⟨A3, c3, rfl⟩ := ownsRow_form hown3; have HOWN := Lib.hid (ownsRow_own (ys := ks ++ [k]) (by rw [List.length_append, HM.out, List.map_append]; exact hown3)).2; have HB3 := Lib.hid (HBW.out.trans (((HB2.out.alloc hz2w _).grown hgr3 (by simp; omega) (fun g' hg' => (HLT2.out g' hg').1)).mono hzw1)); clear hown3 hgr3)
    go_ret2
    exact ⟨A3, m + 1, c3, rfl, by simp [someN, HM.out], HOWN.out.more hzw1 (Nat.le_refl _), HB3.out⟩

set_option maxRecDepth 100000 in
set_option maxHeartbeats 1000000 in
theorem impl_PutOn (A A2 : Option Addr) (n c m c2 : Nat) (ts : List (Int × Int × Int)) (ks : List Int) (k : Int) (lo hi lo2 hi2 : Nat) (w : World) (hn : ts.length = n) (hlen : n ≤ 1048576) (hm : ks.length = m) (hlen2 : m ≤ 1048576) (hc2 : m ≤ c2)
    (hs : Seg w lo hi A (flat3 ts)) (hB : hi ≤ w.heap.size) (hs2 : Seg w lo2 hi2 A2 ks) (hB2 : hi2 ≤ w.heap.size) (q : Bool) (hq : putB ts ks k = q) :
    Calls Try.prog 27 #[.slice A n c, .slice A2 m c2, .int .i64 k] w (RetL q (someN q (ks ++ [k])) w) := by
  have HN := Lib.hid hn
  have HM := Lib.hid hm
  rcases put_cases hn hq with ⟨rfl, hb⟩ | ⟨rfl, hb, hc⟩ | ⟨rfl, hb, hc⟩
  · have HQ := Lib.hid hb
    clear hn hm hq hb
    go_enter Try.func27, Try.ntmps27
    go_wp2_with fail
    refine (pileOf_any A _ n c _ c2 ts _ lo hi lo2 hi2 _ HN.out hlen HM.out hlen2 hs hB hs2 hB2 _ HQ.out).mono ?_
    rintro e w1 ⟨A3, n3, c3, B3, m3, d3, rfl, _, hb1⟩
    go_wp2
    go_ret2
    exact ⟨none, 0, 0, rfl, rfl, Own.nil_, hb1.alloc hb1.size _⟩
  · have HQ := Lib.hid hb
    have HC := Lib.hid hc
    clear hn hm hq hb hc
    go_enter Try.func27, Try.ntmps27
    go_wp2_with fail
    refine (pileOf_any A _ n c _ c2 ts _ lo hi lo2 hi2 _ HN.out hlen HM.out hlen2 hs hB hs2 hB2 _ HQ.out).mono ?_
    rintro e w1 ⟨A3, n3, c3, B, m3, d, rfl, hy, hb1⟩
    obtain ⟨rfl, rfl, rfl, rfl, hown⟩ := hy rfl
    have hz1w := hb1.size
    have hba := hb1.alloc hb1.size (.cells #[.slice A3 n3 c3, .slice B m3 d] 62)
    have HBA := Lib.hid hba
    have HP1 := Lib.hid (new_at w1 (.cells #[.slice A3 n3 c3, .slice B m3 d] 62) rfl)
    have HNE := Lib.hid (show (Value.slice B m3 d).ownBlock ≠ some w1.heap.size from fun e => by have := (hown.lt _ e).2; omega)
    have HOW := Lib.hid (hown.alloc (.cells #[.slice A3 n3 c3, .slice B m3 d] 62))
    clear hown hba
    have HSG := Lib.hid (ownsRow_own (ys := ks) (by rw [HM.out]; exact HOW.out)).2.seg
    go_wp2_with fail
    refine (canTake_any _ _ _ B _ _ _ d ks k _ _ _ HP1.out HM.out (by omega) HSG.out _ HC.out).mono ?_
    rintro e w2 ⟨rfl, rfl⟩
    go_wp2
    go_ret2
    exact ⟨none, 0, 0, rfl, rfl, Own.nil_, HBA.out⟩
  · have HQ := Lib.hid hb
    have HC := Lib.hid hc
    have hm7 : m ≤ 7 := by rw [← hm]; exact bothT_len hb
    clear hn hm hq hb hc
    go_enter Try.func27, Try.ntmps27
    go_wp2_with fail
    refine (pileOf_any A _ n c _ c2 ts _ lo hi lo2 hi2 _ HN.out hlen HM.out hlen2 hs hB hs2 hB2 _ HQ.out).mono ?_
    rintro e w1 ⟨A3, n3, c3, B, m3, d, rfl, hy, hb1⟩
    obtain ⟨rfl, rfl, rfl, rfl, hown⟩ := hy rfl
    have hz1w := hb1.size
    have hba := hb1.alloc hb1.size (.cells #[.slice A3 n3 c3, .slice B m3 d] 62)
    have HBA := Lib.hid hba
    have HP1 := Lib.hid (new_at w1 (.cells #[.slice A3 n3 c3, .slice B m3 d] 62) rfl)
    have HNE := Lib.hid (show (Value.slice B m3 d).ownBlock ≠ some w1.heap.size from fun e => by have := (hown.lt _ e).2; omega)
    have HOW := Lib.hid (hown.alloc (.cells #[.slice A3 n3 c3, .slice B m3 d] 62))
    clear hown hba
    have HSG := Lib.hid (ownsRow_own (ys := ks) (by rw [HM.out]; exact HOW.out)).2.seg
    go_wp2_with fail
    refine (canTake_any _ _ _ B _ _ _ d ks k _ _ _ HP1.out HM.out (by omega) HSG.out _ HC.out).mono ?_
    rintro e w2 ⟨rfl, rfl⟩
    go_wp2_with fail
    refine (put_any _ _ w.heap.size _ _ m3 ks k _ HP1.out HOW.out HNE.out (by omega) (by simp; omega)).mono ?_
    rintro e w2 ⟨rfl, v2, hp2, how2, hne2, ho2, _⟩
    obtain ⟨A4, c4, rfl⟩ := ownsRow_form how2
    obtain ⟨p0, p1, _, _⟩ := pile_cells hp2
    have HOWN := Lib.hid (ownsRow_own (ys := ks ++ [k]) (by rw [List.length_append, HM.out]; exact how2)).2
    have HB2 := Lib.hid (HBA.out.trans (ho2.below (by simp; omega) (fun b hb' => by rcases hb' with h | h; omega; exact (HOW.out.lt _ h).1)))
    clear how2 hp2 hne2 ho2
    go_wp2
    go_ret2
    exact ⟨A4, m3 + 1, c4, rfl, by simp [someN, HM.out], HOWN.out, HB2.out⟩

theorem many_any (P T : Nat) (a : Value) (B : Option Addr) (m d : Nat) (w : World) (hp : w.heap[P]? = some (.cells #[a, .slice B m d] T (0, 0))) :
    Calls Try.prog 63 #[.pointer (some ⟨P, 0, none⟩)] w fun e w' => e = .returned (.int .i64 (m : Int)) ∧ w = w' := by
  obtain ⟨p0, p1, z0, z1⟩ := pile_cells hp
  clear hp
  go_enter Try.func63, Try.ntmps63
  go_wp2
  go_ret
  exact ⟨rfl, rfl⟩

theorem top_cases {ts : List (Int × Int × Int)} {ks : List Int} {q : Bool} {m : Nat} (hm : ks.length = m) (h : topB ts ks = q) :
    (q = false ∧ bothT ts ks = false) ∨ (q = false ∧ bothT ts ks = true ∧ m = 0) ∨ (q = true ∧ bothT ts ks = true ∧ 0 < m) := by
  subst hm
  rw [← h]; unfold topB
  cases bothT ts ks
  · exact .inl ⟨rfl, rfl⟩
  · rcases Nat.eq_zero_or_pos ks.length with e | e
    · exact .inr (.inl ⟨by simp [e], rfl, e⟩)
    · exact .inr (.inr ⟨by simp [e], rfl, e⟩)
theorem drop_last {ks : List Int} {m : Nat} (hm : ks.length = m + 1) : ∃ xs x, ks = xs ++ [x] ∧ xs.length = m := by
  have hne : ks ≠ [] := by intro h; subst h; simp at hm
  exact ⟨ks.dropLast, ks.getLast hne, (List.dropLast_concat_getLast hne).symm, by simp [hm]⟩

set_option maxRecDepth 100000 in
set_option maxHeartbeats 1000000 in
theorem spec_TakeTop (A A2 : Option Addr) (n c m c2 : Nat) (ts : List (Int × Int × Int)) (ks : List Int) (lo hi lo2 hi2 : Nat) (w : World) (hn : ts.length = n) (hlen : n ≤ 1048576) (hm : ks.length = m) (hlen2 : m ≤ 1048576) (hc2 : m ≤ c2)
    (hs : Seg w lo hi A (flat3 ts)) (hB : hi ≤ w.heap.size) (hs2 : Seg w lo2 hi2 A2 ks) (hB2 : hi2 ≤ w.heap.size) (q : Bool) (hq : topB ts ks = q) :
    Calls Try.prog 31 #[.slice A n c, .slice A2 m c2] w (RetLIB q (topI q ks) (someN q ks.dropLast) w) := by
  have HN := Lib.hid hn
  have HM := Lib.hid hm
  rcases top_cases hm hq with ⟨rfl, hb⟩ | ⟨rfl, hb, h0⟩ | ⟨rfl, hb, h0⟩
  · have HQ := Lib.hid hb
    clear hn hm hq hb
    go_enter Try.func31, Try.ntmps31
    go_wp2_with fail
    refine (scStack_any A _ n c _ c2 ts _ lo hi lo2 hi2 _ HN.out hlen HM.out hlen2 hc2 hs hB hs2 hB2 _ HQ.out).mono ?_
    rintro e w1 ⟨rfl, hbw1⟩
    go_wp2
    exact bodyPost_ret (v := .tuple #[.slice none 0 0, .int .i64 0, .bool false]) (by simp [results, Try.results31, go_sem]) rfl ⟨none, 0, 0, rfl, rfl, Own.nil_, hbw1⟩
  · have HQ := Lib.hid hb
    subst h0
    clear hn hm hq hb
    go_enter Try.func31, Try.ntmps31
    go_wp2_with fail
    refine (scStack_any A _ n c _ c2 ts _ lo hi lo2 hi2 _ HN.out hlen HM.out hlen2 hc2 hs hB hs2 hB2 _ HQ.out).mono ?_
    rintro e w1 ⟨rfl, hbw1⟩
    go_wp2
    exact bodyPost_ret (v := .tuple #[.slice none 0 0, .int .i64 0, .bool false]) (by simp [results, Try.results31, go_sem]) rfl ⟨none, 0, 0, rfl, rfl, Own.nil_, hbw1⟩
  · have HQ := Lib.hid hb
    have hm7 : m ≤ 7 := by rw [← hm]; exact bothT_len hb
    obtain ⟨m, rfl⟩ : ∃ m', m = m' + 1 := ⟨m - 1, by omega⟩
    obtain ⟨xs, x, rfl, hxl⟩ := drop_last hm
    have HXL := Lib.hid hxl
    have e1 : topI true (xs ++ [x]) = x := by simp [topI, List.getD]
    have e2 : someN true (xs ++ [x]).dropLast = xs := by simp [someN]
    rw [e1, e2]
    have hxm : (xs ++ [x])[m]? = some x := by rw [List.getElem?_append_right (by omega), hxl]; simp
    have hmc : m ≤ c2 := by omega
    have hlt1 : (m : Int) < (m : Int) + 1 := by omega
    have hne : ((m : Int) + 1 == 0) = false := by rw [beq_eq_false_iff_ne]; omega
    have hwr : IntKind.i64.wrap (((m + 1 : Nat) : Int) - 1) = (m : Int) := by rw [IntKind.wrap_i64]; omega
    obtain ⟨g, off, x', rfl, hlg, hg2, hx', hcx⟩ := hs2.at_ (k := m) (by simp; omega)
    rw [hxm] at hx'
    obtain rfl : x = x' := by injection hx'
    have HSX0 := Lib.hid (show Seg w lo2 hi2 (some ⟨g, off, none⟩) xs from by have := hs2.takeT m; rwa [List.take_append_of_le_length (by omega), List.take_of_length_le (by omega)] at this)
    clear hn hm hq hb hxl e1 e2 hxm hx' h0
    go_enter Try.func31, Try.ntmps31
    go_wp2_with fail
    refine (scStack_any A _ n c _ c2 ts _ lo hi lo2 hi2 _ HN.out hlen HM.out hlen2 hc2 hs hB hs2 hB2 _ HQ.out).mono ?_
    rintro e w1 ⟨rfl, hbw1⟩
    have hzw1 := hbw1.size
    have HBW := Lib.hid hbw1
    have HSX := Lib.hid (HSX0.out.below hbw1 hB2)
    have HCX := Lib.hid ((hbw1.cell (p := ⟨g, off + m, none⟩) (by show g < w.heap.size; omega)).trans hcx)
    clear hbw1
    go_wp2_with fail
    refine wp_region_held_drew (S := (fun wq => Below w1.heap.size w1 wq ∧ wq.cell? ⟨g, off + m, none⟩ = some (.int .i64 x))) (by kernel_rfl) ⟨below_drewN (Below.refl _ _) 1, HCX.out⟩ (fun hH0 => ?_)
    refine wpAnyH_take (i := 0) (v := ?_) (ops_at rfl) (by kernel_rfl) (by kernel_rfl) (by kernel_rfl) (fun _ _ _ h => h) (Or.inl ⟨by rfl, ?ya0⟩) (by assumption) ?na0
    case ya0 => (intro wS hSw; (try dsimp only at hSw); go_simp; try rfl)
    try simp only [Act.put, List.setIfInBounds_toArray, List.set_cons_zero, List.set_cons_succ]
    refine wpAnyH_take (i := 1) (v := ?_) (ops_at rfl) (by kernel_rfl) (by kernel_rfl) (by kernel_rfl) (fun _ _ _ h => h) (Or.inl ⟨by rfl, ?ya1⟩) (by assumption) ?na1
    case ya1 => (intro wS hSw; (try dsimp only at hSw); go_simp; try rfl)
    try simp only [Act.put, List.setIfInBounds_toArray, List.set_cons_zero, List.set_cons_succ]
    refine wpAnyH_take (i := 2) (v := ?_) (ops_at rfl) (by kernel_rfl) (by kernel_rfl) (by kernel_rfl) (fun _ _ _ h => h) (Or.inl ⟨by rfl, ?ya2⟩) (by assumption) ?na2
    case ya2 => (intro wS hSw; (try dsimp only at hSw); go_simp; try rfl)
    try simp only [Act.put, List.setIfInBounds_toArray, List.set_cons_zero, List.set_cons_succ]
    refine wpAnyH_take (i := 4) (v := ?_) (ops_at rfl) (by kernel_rfl) (by kernel_rfl) (by kernel_rfl) (fun _ _ _ h => h) (Or.inl ⟨by rfl, ?ya4⟩) (by assumption) ?na4
    case ya4 => (intro wS hSw; (try dsimp only at hSw); go_simp; try rfl)
    try simp only [Act.put, List.setIfInBounds_toArray, List.set_cons_zero, List.set_cons_succ]
    refine wpAnyH_take (i := 5) (v := ?_) (ops_at rfl) (by kernel_rfl) (by kernel_rfl) (by kernel_rfl) (fun _ _ _ h => h) (Or.inl ⟨by rfl, ?ya5⟩) (by assumption) ?na5
    case ya5 => (intro wS hSw; (try dsimp only at hSw); go_simp; try rfl)
    try simp only [Act.put, List.setIfInBounds_toArray, List.set_cons_zero, List.set_cons_succ]
    refine wpAnyH_take (i := 6) (v := ?_) (ops_at rfl) (by kernel_rfl) (by kernel_rfl) (by kernel_rfl) (fun _ _ _ h => h) (Or.inl ⟨by rfl, ?ya6⟩) (by assumption) ?na6
    case ya6 => (intro wS hSw; (try dsimp only at hSw); go_simp; try rfl)
    try simp only [Act.put, List.setIfInBounds_toArray, List.set_cons_zero, List.set_cons_succ]
    refine wpAnyH_take (i := 7) (v := ?_) (ops_at rfl) (by kernel_rfl) (by kernel_rfl) (by kernel_rfl) (fun _ _ _ h => h) (Or.inl ⟨by rfl, ?ya7⟩) (by assumption) ?na7
    case ya7 => (intro wS hSw; (try dsimp only at hSw); go_simp; try rfl)
    try simp only [Act.put, List.setIfInBounds_toArray, List.set_cons_zero, List.set_cons_succ]
    refine wpAnyH_ready (rs := [3]) (by kernel_rfl) (by simp) ?_
    refine AllReadyH.cons (ops_at rfl) (fun K hK => ?_) AllReadyH.nil
    go_simp
    refine (l1Own_any (some ⟨g, off, none⟩) m _ xs lo2 hi2 _ HXL.out (by omega) (HSX.out.below hH0.1 (by omega)) (by have := hH0.1.size; omega)).mono ?_
    rintro e w2 ⟨A4, c4, rfl, hown2, hb2⟩
    refine hK.out _ _ ⟨hH0.1.trans (hb2.mono hH0.1.size), (hb2.cell (cell_lt hH0.2)).trans hH0.2⟩ (fun hH1 => ?_)
    clear hK K
    refine wpAnyH_take (i := 8) (v := ?_) (ops_at rfl) (by kernel_rfl) (by kernel_rfl) (by kernel_rfl) (fun _ _ _ h => h) (Or.inl ⟨by rfl, ?yb8⟩) (by assumption) ?nb8
    case yb8 => (intro wS hSw; (try dsimp only at hSw); go_simp; try rfl)
    try simp only [Act.put, List.setIfInBounds_toArray, List.set_cons_zero, List.set_cons_succ]
    refine wpAnyH_take (i := 9) (v := ?_) (ops_at rfl) (by kernel_rfl) (by kernel_rfl) (by kernel_rfl) (fun _ _ _ h => h) (Or.inl ⟨by rfl, ?yb9⟩) (by assumption) ?nb9
    case yb9 => (intro wS hSw; (try dsimp only at hSw); go_simp; try rfl)
    try simp only [Act.put, List.setIfInBounds_toArray, List.set_cons_zero, List.set_cons_succ]
    refine wpAnyH_take (i := 10) (v := ?_) (ops_at rfl) (by kernel_rfl) (by kernel_rfl) (by kernel_rfl) (fun _ _ _ h => h) (Or.inl ⟨by rfl, ?yb10⟩) (by assumption) ?nb10
    case yb10 => (intro wS hSw; (try dsimp only at hSw); go_simp; try rfl)
    try simp only [Act.put, List.setIfInBounds_toArray, List.set_cons_zero, List.set_cons_succ]
    refine wpAnyH_done (by kernel_rfl) ?_ _
    go_wp2
    exact bodyPost_ret (v := .tuple #[.slice A4 m c4, .int .i64 x, .bool true]) (by simp [results, Try.results31, go_sem]) rfl ⟨A4, m, c4, rfl, HXL.out, (ownsRow_own (ys := xs) (by rw [HXL.out]; exact hown2)).2.more hzw1 (Nat.le_refl _), HBW.out.trans (hH1.1.mono hzw1)⟩

set_option maxRecDepth 100000 in
set_option maxHeartbeats 1000000 in
theorem impl_TakeTop (A A2 : Option Addr) (n c m c2 : Nat) (ts : List (Int × Int × Int)) (ks : List Int) (lo hi lo2 hi2 : Nat) (w : World) (hn : ts.length = n) (hlen : n ≤ 1048576) (hm : ks.length = m) (hlen2 : m ≤ 1048576) (hc2 : m ≤ c2)
    (hs : Seg w lo hi A (flat3 ts)) (hB : hi ≤ w.heap.size) (hs2 : Seg w lo2 hi2 A2 ks) (hB2 : hi2 ≤ w.heap.size) (q : Bool) (hq : topB ts ks = q) :
    Calls Try.prog 32 #[.slice A n c, .slice A2 m c2] w (RetLIB q (topI q ks) (someN q ks.dropLast) w) := by
  have HN := Lib.hid hn
  have HM := Lib.hid hm
  rcases top_cases hm hq with ⟨rfl, hb⟩ | ⟨rfl, hb, h0⟩ | ⟨rfl, hb, h0⟩
  · have HQ := Lib.hid hb
    clear hn hm hq hb
    go_enter Try.func32, Try.ntmps32
    go_wp2_with fail
    refine (pileOf_any A _ n c _ c2 ts _ lo hi lo2 hi2 _ HN.out hlen HM.out hlen2 hs hB hs2 hB2 _ HQ.out).mono ?_
    rintro e w1 ⟨A3, n3, c3, B3, m3, d3, rfl, _, hb1⟩
    go_wp2
    exact bodyPost_ret (v := .tuple #[.slice none 0 0, .int .i64 0, .bool false]) (by simp [results, Try.results32, go_sem]) rfl ⟨none, 0, 0, rfl, rfl, Own.nil_, hb1.alloc hb1.size _⟩
  · have HQ := Lib.hid hb
    have H0 := Lib.hid h0
    clear hn hm hq hb h0
    go_enter Try.func32, Try.ntmps32
    go_wp2_with fail
    refine (pileOf_any A _ n c _ c2 ts _ lo hi lo2 hi2 _ HN.out hlen HM.out hlen2 hs hB hs2 hB2 _ HQ.out).mono ?_
    rintro e w1 ⟨A3, n3, c3, B, m3, d, rfl, hy, hb1⟩
    obtain ⟨rfl, rfl, rfl, rfl, hown⟩ := hy rfl
    have hz1w := hb1.size
    have hba := hb1.alloc hb1.size (.cells #[.slice A3 n3 c3, .slice B m3 d] 62)
    have HBA := Lib.hid hba
    have HP1 := Lib.hid (new_at w1 (.cells #[.slice A3 n3 c3, .slice B m3 d] 62) rfl)
    have HNE := Lib.hid (show (Value.slice B m3 d).ownBlock ≠ some w1.heap.size from fun e => by have := (hown.lt _ e).2; omega)
    have HOW := Lib.hid (hown.alloc (.cells #[.slice A3 n3 c3, .slice B m3 d] 62))
    clear hown hba
    have he0 : ((m3 : Int) == 0) = true := by rw [H0.out]; rfl
    go_wp2_with fail
    refine (many_any _ _ _ B _ d _ HP1.out).mono ?_
    rintro e w2 ⟨rfl, rfl⟩
    go_wp2
    exact bodyPost_ret (v := .tuple #[.slice none 0 0, .int .i64 0, .bool false]) (by simp [results, Try.results32, go_sem]) rfl ⟨none, 0, 0, rfl, rfl, Own.nil_, HBA.out⟩
  · have HQ := Lib.hid hb
    have hm7 : m ≤ 7 := by rw [← hm]; exact bothT_len hb
    obtain ⟨m, rfl⟩ : ∃ m', m = m' + 1 := ⟨m - 1, by omega⟩
    obtain ⟨xs, x, rfl, hxl⟩ := drop_last hm
    have HXL := Lib.hid hxl
    have e1 : topI true (xs ++ [x]) = x := by simp [topI, List.getD]
    have e2 : someN true (xs ++ [x]).dropLast = xs := by simp [someN]
    rw [e1, e2]
    have hne : ((m : Int) + 1 == 0) = false := by rw [beq_eq_false_iff_ne]; omega
    have hne2 : (((m + 1 : Nat) : Int) == 0) = false := by rw [beq_eq_false_iff_ne]; omega
    clear hn hm hq hb hxl e1 e2
    go_enter Try.func32, Try.ntmps32
    go_wp2_with fail
    refine (pileOf_any A _ n c _ c2 ts _ lo hi lo2 hi2 _ HN.out hlen HM.out hlen2 hs hB hs2 hB2 _ HQ.out).mono ?_
    rintro e w1 ⟨A3, n3, c3, B, m3, d, rfl, hy, hb1⟩
    obtain ⟨rfl, rfl, rfl, rfl, hown⟩ := hy rfl
    have hz1w := hb1.size
    obtain ⟨g, cap, hv, hg0, hg1, _, _⟩ := ownsRow_head (ys := xs ++ [x]) hown (by omega)
    injection hv with e1 e2 e3
    subst e1 e3
    have HBA := Lib.hid (hb1.alloc hb1.size (.cells #[.slice A3 n3 c3, .slice (some ⟨g, 0, none⟩) (m + 1) d] 62))
    have HP1 := Lib.hid (new_at w1 (.cells #[.slice A3 n3 c3, .slice (some ⟨g, 0, none⟩) (m + 1) d] 62) rfl)
    have HOW := Lib.hid (hown.alloc (.cells #[.slice A3 n3 c3, .slice (some ⟨g, 0, none⟩) (m + 1) d] 62))
    clear hown hb1 e2
    have hgne : g ≠ w1.heap.size := by omega
    go_wp2_with fail
    refine (many_any _ _ _ _ _ d _ HP1.out).mono ?_
    rintro e w2 ⟨rfl, rfl⟩
    go_wp2_with fail
    refine (takeTop_any _ _ w.heap.size g m d _ xs x _ HP1.out HOW.out hgne (by omega)).mono ?_
    rintro e w2 ⟨rfl, hp2, how2, ho2⟩
    obtain ⟨p0, p1, _, _⟩ := pile_cells hp2
    have HOWN := Lib.hid (ownsRow_own (ys := xs) (by rw [HXL.out]; exact how2)).2
    have HB2 := Lib.hid (HBA.out.trans (ho2.below (by simp; omega) (fun b hb' => by have hb'' : b = w1.heap.size := hb'; omega)))
    clear hp2 how2 ho2
    go_wp2
    exact bodyPost_ret (v := .tuple #[.slice (some ⟨g, 0, none⟩) m d, .int .i64 x, .bool true]) (by simp [results, Try.results32, go_sem]) rfl ⟨_, m, d, rfl, HXL.out, HOWN.out, HB2.out⟩
end Go.Proofs.Ytcfnjodcnejnkaa

/-
  Both programs' height of a shelving, and the written program's heights of its shelves.
  Conditions: the lists have at most 1048576 elements.
-/
import Derived.Test.YtmdeijjlcebmaaaHeights
namespace Go.Proofs.Ytmdeijjlcebmaaa
set_option linter.unusedVariables false
open Go.RowKit

theorem slice12h (g off m : Nat) (hm : m ≤ 12) (W : World) : (Instr.sliceAt 59 (.pointer (some ⟨g, off, none⟩)) none (some (.int .i64 (m : Int))) none).run Try.prog W = .ok (.slice (some ⟨g, off, none⟩) m 12) W := by
  have hu : Try.prog.underlying 59 = some (.array (Try.prog.arrayLen 59) (Try.prog.elem 59)) := by kernel_rfl
  have hl : Try.prog.arrayLen 59 = 12 := by kernel_rfl
  have hs : (sizeOf (Try.prog.elem 59)).run Try.prog W = .ok 1 W := by kernel_rfl
  rw [run_sliceAt_array_h W _ ⟨g, off, none⟩ hu .i64 (m : Int) (by omega) (by rw [hl]; omega), hs]
  simp [Result.andThen, slicedAt, hl, Addr.add]

theorem slice12a (g off : Nat) (W : World) : (Instr.sliceAt 59 (.pointer (some ⟨g, off, none⟩)) none none none).run Try.prog W = .ok (.slice (some ⟨g, off, none⟩) 12 12) W := by
  have hu : Try.prog.underlying 59 = some (.array (Try.prog.arrayLen 59) (Try.prog.elem 59)) := by kernel_rfl
  have hl : Try.prog.arrayLen 59 = 12 := by kernel_rfl
  have hs : (sizeOf (Try.prog.elem 59)).run Try.prog W = .ok 1 W := by kernel_rfl
  rw [run_sliceAt_array_all W _ ⟨g, off, none⟩ hu, hs]
  simp [Result.andThen, slicedAt, hl, Addr.add]

/-- The heights in a new block. -/
theorem arr_heights {w : World} {xs : List Int} {u0 u1 u2 u3 u4 u5 u6 u7 u8 u9 u10 u11 : Int} (h : pad12 xs = [u0, u1, u2, u3, u4, u5, u6, u7, u8, u9, u10, u11]) (T : Nat) : Arr (w.alloc (.cells #[.int .i64 u0, .int .i64 u1, .int .i64 u2, .int .i64 u3, .int .i64 u4, .int .i64 u5, .int .i64 u6, .int .i64 u7, .int .i64 u8, .int .i64 u9, .int .i64 u10, .int .i64 u11] T)) w.heap.size T (pad12 xs) :=
  ⟨_, heap_alloc_new w _, by rw [h]; rfl⟩

theorem pad12_seg {w : World} {lo hi : Nat} {A : Option Addr} {xs : List Int} (h : Seg w lo hi A (pad12 xs)) : Seg w lo hi A xs := by
  rcases h with h | ⟨b, off, e, h1, h2, hc⟩
  · have : xs = [] := by
      unfold pad12 at h
      exact (List.append_eq_nil_iff.1 h).1
    exact .inl this
  · refine .inr ⟨b, off, e, h1, h2, fun k hk => ?_⟩
    rw [hc k (by simp [pad12]; omega)]
    unfold pad12
    simp [List.getD, List.getElem?_append_left hk]

theorem sumOf_loop_bd {xs : List Int} (h : ∀ x ∈ xs, 0 ≤ x ∧ x ≤ 1000000) (hl : xs.length ≤ 1000) (k : Nat) : 0 ≤ (xs.take k).sum ∧ (xs.take k).sum ≤ 1000000000 := by
  have : ∀ ys : List Int, (∀ x ∈ ys, 0 ≤ x ∧ x ≤ 1000000) → 0 ≤ ys.sum ∧ ys.sum ≤ 1000000 * (ys.length : Int) := by
    intro ys
    induction ys with
    | nil => simp
    | cons y ys ih =>
      intro hy
      have h1 := hy y List.mem_cons_self
      have h2 := ih (fun z hz => hy z (List.mem_cons_of_mem _ hz))
      simp only [List.sum_cons, List.length_cons]
      omega
  have h3 := this (xs.take k) (fun x hx => h x (List.mem_of_mem_take hx))
  have : (xs.take k).length ≤ 1000 := by rw [List.length_take]; omega
  omega

set_option maxHeartbeats 400000 in
theorem sumOf_any (A : Option Addr) (n c : Nat) (xs : List Int) (lo hi : Nat) (w : World) (hn : xs.length = n) (hs : Seg w lo hi A xs) (hl : n ≤ 1000) (hg : ∀ x ∈ xs, 0 ≤ x ∧ x ≤ 1000000) :
    Calls Try.prog 45 #[.slice A n c] w fun e w' => e = .returned (.int .i64 xs.sum) ∧ w = w' := by
  have HN := Lib.hid hn
  have HG := Lib.hid (fun k => sumOf_loop_bd hg (by rw [hn]; exact hl) k)
  have HX := Lib.hid hg
  clear hn hg
  go_enter Try.func45, Try.ntmps45
  go_wp2
  go_loop [3, 5, 8] (fun m _ i => ∃ k : Nat, k ≤ n ∧ i = .int .i64 k ∧ m = .int .i64 (xs.take k).sum) (fun _ _ i => n - (intOf i).toNat)
  case atStart => exact ⟨0, Nat.zero_le _, rfl, rfl⟩
  case round =>
    obtain ⟨k, hk, rfl, rfl⟩ := hrel
    have hsb := HG.out k
    by_cases hlt : k < n
    · obtain ⟨b, off, u, rfl, _, _, hx, hc⟩ := hs.at_ (k := k) (by rw [HN.out]; exact hlt)
      have HM := Lib.hid (sums_take xs hx)
      have hu := HX.out u (List.mem_of_getElem? hx)
      clear hx
      obtain ⟨q, hq⟩ : ∃ q, q = (xs.take k).sum := ⟨_, rfl⟩
      rw [← hq] at HM hsb ⊢
      clear hq
      go_wp2
      go_round
      case rel => exact ⟨k + 1, by omega, by go_num, by rw [← HM.out]⟩
      case measure => simp [intOf]; omega
    · obtain rfl : k = n := by omega
      go_wp2
      go_ret
      exact ⟨by rw [← HN.out, List.take_length]; rfl, rfl⟩

theorem height_bd {bs : List (Int × Int)} {qs : List Nat} (hg : partB bs) : ∀ x ∈ heightsK bs qs, 0 ≤ x ∧ x ≤ 100 := by
  intro x hx
  obtain ⟨k, hk⟩ := List.getElem?_of_mem hx
  have hl := (List.getElem?_eq_some_iff.1 hk).1
  rw [heights_length] at hl
  rw [heights_at bs hl] at hk
  injection hk with hk
  subst hk
  refine ⟨mostOf_ge _, foldl_max_le (fun y hy => ?_) (by omega)⟩
  obtain ⟨q, hq, rfl⟩ := List.mem_map.1 hy
  have := hg.2 q (part_mem hq)
  omega

theorem pad_bd {bs : List (Int × Int)} {qs : List Nat} (hg : partB bs) : ∀ x ∈ pad12 (heightsK bs qs), 0 ≤ x ∧ x ≤ 1000000 := by
  intro x hx
  unfold pad12 at hx
  rcases List.mem_append.1 hx with h | h
  · have := height_bd hg x h; omega
  · have := (List.mem_replicate.1 h).2; omega

section
variable (A D : Option Addr) (n c m d : Nat) (bs : List (Int × Int)) (width : Int) (fs : List Int) (lo hi lo' hi' : Nat) (w : World) (hn : bs.length = n) (hlen : n ≤ 1048576) (hc : n ≤ c) (hm : fs.length = m) (hm2 : m ≤ 1048576)
    (hs : Seg w lo hi A (flat bs)) (hB : hi ≤ w.heap.size) (ho : Seg w lo' hi' D fs) (hB' : hi' ≤ w.heap.size) (p : Bool) (hp : bothB bs width fs = p)
include hn hlen hc hm hm2 hs hB ho hB' hp

set_option maxHeartbeats 2000000 in
theorem impl_ShelfHeights :
    Calls Try.prog 18 #[.slice A n c, .int .i64 width, .slice D m d] w (RetL p (listL p (heightsK bs (natsOf fs))) w) := by
  have HN := Lib.hid hn
  have HM := Lib.hid hm
  have HP := Lib.hid hp
  cases p
  · clear hn hm hp
    go_enter Try.func18, Try.ntmps18
    go_wp2_with fail
    refine (shelvingOf_any _ _ _ _ _ _ bs width fs lo hi lo' hi' _ HN.out hlen hc HM.out hm2 hs hB ho hB' _ HP.out).mono ?_
    rintro e w1 ⟨v0, v1, v2, v3, v4, v5, v6, v7, v8, v9, v10, v11, v12, rfl, hsl, hb1⟩
    clear hsl
    go_wp2
    go_ret2
    exact ⟨_, _, _, rfl, rfl, Own.nil_, hb1.alloc hb1.size _⟩
  · obtain ⟨b, off, _, _, rfl, _⟩ := hs.book (k := 0) (by have := (askedK_at (bothB_at hp).1).1; omega)
    clear hn hm hp
    go_enter Try.func18, Try.ntmps18
    go_wp2_with fail
    refine (shelvingOf_any _ _ _ _ _ _ bs width fs lo hi lo' hi' _ HN.out hlen hc HM.out hm2 hs hB ho hB' _ HP.out).mono ?_
    rintro e w1 ⟨v0, v1, v2, v3, v4, v5, v6, v7, v8, v9, v10, v11, v12, rfl, hsl, hb1⟩
    have HF := Lib.hid (both_facts HN.out HP.out (hsl rfl))
    have hql : (natsOf fs).length = m := by rw [natsOf_length]; exact HM.out
    obtain rfl : v0 = (m : Int) := by
      have := HF.out.1.zero
      rw [hql] at this
      simpa using this
    have hm12 : m ≤ 12 := by have h1 := HF.out.2.1.len; have h2 := HF.out.2.2.2.2.1; rw [hql] at h1; omega
    have HQL := Lib.hid hql
    have hb1' := hb1.alloc hb1.size (.cells #[.int .i64 (m : Int), .int .i64 v1, .int .i64 v2, .int .i64 v3, .int .i64 v4, .int .i64 v5, .int .i64 v6, .int .i64 v7, .int .i64 v8, .int .i64 v9, .int .i64 v10, .int .i64 v11, .int .i64 v12] 51)
    have hs1 := hs.below hb1' hB
    have hB1 := Nat.le_trans hB hb1'.size
    clear hsl hql
    go_wp2_with fail
    refine (heights_any b off n c bs (natsOf fs) _ _ _ _ _ _ _ _ _ _ _ _ _ lo hi _ HN.out hc HF.out.1 HF.out.2.1 HF.out.2.2.1 hs1 hB1).mono ?_
    rintro e w2 ⟨u0, u1, u2, u3, u4, u5, u6, u7, u8, u9, u10, u11, rfl, hpad, hb2⟩
    have hz2 := hb2.size
    have hz1 := hb1.size
    simp at hz2
    have hbb := hb1'.trans (hb2.mono (by simp; omega))
    have hbb2 := hbb.alloc hbb.size (.cells #[.int .i64 u0, .int .i64 u1, .int .i64 u2, .int .i64 u3, .int .i64 u4, .int .i64 u5, .int .i64 u6, .int .i64 u7, .int .i64 u8, .int .i64 u9, .int .i64 u10, .int .i64 u11] 59)
    have harr := arr_heights (w := w2) hpad 59
    have HSG := Lib.hid (harr.own (lo := w2.heap.size) (hi := w2.heap.size + 1) (Nat.le_refl _) (Nat.lt_succ_self _)).seg
    have hcm : (w2.alloc (.cells #[.int .i64 u0, .int .i64 u1, .int .i64 u2, .int .i64 u3, .int .i64 u4, .int .i64 u5, .int .i64 u6, .int .i64 u7, .int .i64 u8, .int .i64 u9, .int .i64 u10, .int .i64 u11] 59)).cell? ⟨w1.heap.size, 0, none⟩ = some (.int .i64 (m : Int)) := by
      rw [cell_of ((alloc_old w2 (heap_lt (new_cells hb2)) _).trans (new_cells hb2))]; rfl
    have hsl1 := slice12h w2.heap.size 0 m hm12
    have hsl2 := slice12a w2.heap.size 0
    clear hpad harr
    go_wp2_with fail
    refine (slicesClone_any _ m _ (heightsK bs (natsOf fs)) _ _ _ (by rw [heights_length]; exact HQL.out) (by omega) (pad12_seg HSG.out) (by simp)).mono ?_
    rintro e w3 ⟨A3, n3, c3, rfl, hn3, hown, hb3⟩
    have hz3 := hb3.size
    simp at hz3
    go_wp2
    go_ret2
    exact ⟨_, _, _, rfl, hn3, hown.more (by simp; omega) (Nat.le_refl _), hbb2.trans (hb3.mono (by simp; omega))⟩

set_option maxHeartbeats 2000000 in
theorem impl_HeightOfCase :
    Calls Try.prog 25 #[.slice A n c, .int .i64 width, .slice D m d] w (RetI (numL p (heightsK bs (natsOf fs)).sum) p w) := by
  have HN := Lib.hid hn
  have HM := Lib.hid hm
  have HP := Lib.hid hp
  cases p
  · clear hn hm hp
    go_enter Try.func25, Try.ntmps25
    go_wp2_with fail
    refine (shelvingOf_any _ _ _ _ _ _ bs width fs lo hi lo' hi' _ HN.out hlen hc HM.out hm2 hs hB ho hB' _ HP.out).mono ?_
    rintro e w1 ⟨v0, v1, v2, v3, v4, v5, v6, v7, v8, v9, v10, v11, v12, rfl, hsl, hb1⟩
    clear hsl
    go_wp2
    go_ret2
    exact ⟨rfl, hb1.alloc hb1.size _⟩
  · obtain ⟨b, off, _, _, rfl, _⟩ := hs.book (k := 0) (by have := (askedK_at (bothB_at hp).1).1; omega)
    clear hn hm hp
    go_enter Try.func25, Try.ntmps25
    go_wp2_with fail
    refine (shelvingOf_any _ _ _ _ _ _ bs width fs lo hi lo' hi' _ HN.out hlen hc HM.out hm2 hs hB ho hB' _ HP.out).mono ?_
    rintro e w1 ⟨v0, v1, v2, v3, v4, v5, v6, v7, v8, v9, v10, v11, v12, rfl, hsl, hb1⟩
    have HF := Lib.hid (both_facts HN.out HP.out (hsl rfl))
    have hql : (natsOf fs).length = m := by rw [natsOf_length]; exact HM.out
    obtain rfl : v0 = (m : Int) := by
      have := HF.out.1.zero
      rw [hql] at this
      simpa using this
    have hm12 : m ≤ 12 := by have h1 := HF.out.2.1.len; have h2 := HF.out.2.2.2.2.1; rw [hql] at h1; omega
    have HQL := Lib.hid hql
    have hb1' := hb1.alloc hb1.size (.cells #[.int .i64 (m : Int), .int .i64 v1, .int .i64 v2, .int .i64 v3, .int .i64 v4, .int .i64 v5, .int .i64 v6, .int .i64 v7, .int .i64 v8, .int .i64 v9, .int .i64 v10, .int .i64 v11, .int .i64 v12] 51)
    have hs1 := hs.below hb1' hB
    have hB1 := Nat.le_trans hB hb1'.size
    clear hsl hql
    go_wp2_with fail
    refine (heights_any b off n c bs (natsOf fs) _ _ _ _ _ _ _ _ _ _ _ _ _ lo hi _ HN.out hc HF.out.1 HF.out.2.1 HF.out.2.2.1 hs1 hB1).mono ?_
    rintro e w2 ⟨u0, u1, u2, u3, u4, u5, u6, u7, u8, u9, u10, u11, rfl, hpad, hb2⟩
    have hz2 := hb2.size
    have hz1 := hb1.size
    simp at hz2
    have hbb := hb1'.trans (hb2.mono (by simp; omega))
    have hbb2 := hbb.alloc hbb.size (.cells #[.int .i64 u0, .int .i64 u1, .int .i64 u2, .int .i64 u3, .int .i64 u4, .int .i64 u5, .int .i64 u6, .int .i64 u7, .int .i64 u8, .int .i64 u9, .int .i64 u10, .int .i64 u11] 59)
    have harr := arr_heights (w := w2) hpad 59
    have HSG := Lib.hid (harr.own (lo := w2.heap.size) (hi := w2.heap.size + 1) (Nat.le_refl _) (Nat.lt_succ_self _)).seg
    have hcm : (w2.alloc (.cells #[.int .i64 u0, .int .i64 u1, .int .i64 u2, .int .i64 u3, .int .i64 u4, .int .i64 u5, .int .i64 u6, .int .i64 u7, .int .i64 u8, .int .i64 u9, .int .i64 u10, .int .i64 u11] 59)).cell? ⟨w1.heap.size, 0, none⟩ = some (.int .i64 (m : Int)) := by
      rw [cell_of ((alloc_old w2 (heap_lt (new_cells hb2)) _).trans (new_cells hb2))]; rfl
    have hsl1 := slice12h w2.heap.size 0 m hm12
    have hsl2 := slice12a w2.heap.size 0
    clear hpad harr
    go_wp2_with fail
    refine (sumOf_any _ _ _ (pad12 (heightsK bs (natsOf fs))) _ _ _ (pad12_len (by rw [heights_length, HQL.out]; exact hm12)) HSG.out (by omega) (pad_bd HF.out.2.2.1)).mono ?_
    rintro e w3 ⟨rfl, rfl⟩
    rw [pad12_sum]
    go_wp2
    go_ret2
    exact ⟨rfl, hbb2⟩
end

set_option maxHeartbeats 2000000 in
theorem shHeight_any (b off n c m d : Nat) (D : Option Addr) (bs : List (Int × Int)) (fs : List Int) (lo hi lo' hi' : Nat) (w : World) (hn : bs.length = n) (hc : n ≤ c) (hm : fs.length = m)
    (hs : Seg w lo hi (some ⟨b, off, none⟩) (flat bs)) (hB : hi ≤ w.heap.size) (ho : Seg w lo' hi' D fs) (hB' : hi' ≤ w.heap.size) (hg : partB bs) (hr : riseB n fs = true) :
    Calls Try.prog 44 #[.slice (some ⟨b, off, none⟩) n c, .slice D m d] w fun e w' => e = .returned (.int .i64 (heightsK bs (natsOf fs)).sum) ∧ Below w.heap.size w w' := by
  have HN := Lib.hid hn
  have HM := Lib.hid hm
  have HRR := Lib.hid hr
  have HRI := Lib.hid (rise_of hr)
  have HG := Lib.hid hg
  have h12 : n ≤ 12 := by have := hg.1; omega
  have HQL : Hid ((natsOf fs).length = m) := by rw [natsOf_length]; exact hm
  have hm12 : m ≤ 12 := by have := HRI.out.len; rw [HQL.out] at this; omega
  have HBD := Lib.hid (fun k => sumOf_loop_bd (xs := heightsK bs (natsOf fs)) (fun x hx => by have := height_bd hg x hx; omega) (by rw [heights_length, HQL.out]; omega) k)
  clear hn hm hr hg
  go_enter Try.func44, Try.ntmps44
  go_wp2_with fail
  refine (shParts_any b off n c m d _ fs lo' hi' _ hc h12 HM.out ho hB' HRR.out).mono ?_
  rintro e w1 ⟨A1, c1, rfl, hown, hb1⟩
  rw [HQL.out] at hown ⊢
  go_wp2
  go_loopw [5, 7, 8, 9, 10, 15] (fun a _ _ _ _ i wr => ∃ k : Nat, k ≤ m ∧ i = .int .i64 k ∧ a = .int .i64 ((heightsK bs (natsOf fs)).take k).sum ∧ Below w1.heap.size w1 wr) (fun _ _ _ _ _ i _ => m - (intOf i).toNat)
  case atStart => exact ⟨0, Nat.zero_le _, rfl, rfl, Below.refl _ _⟩
  case round =>
    obtain ⟨k, hk, rfl, rfl, hb⟩ := hrel
    have hsb := HBD.out k
    by_cases hlt : k < m
    · have hkq : k < (natsOf fs).length := by rw [HQL.out]; exact hlt
      obtain ⟨g, rfl, hg1, hg2, hcg⟩ := parts_cell hown hlt
      have hcw := (hb.cell (p := ⟨g, k, none⟩) (by exact hg2)).trans hcg
      have hbb := hb1.trans (hb.mono hb1.size)
      obtain ⟨p1, p2, p3⟩ := part_facts HN.out HRI.out HG.out hkq (hs.below hbb hB)
      have hat := heights_at bs hkq
      obtain ⟨pt, hpt⟩ : ∃ pt, partK bs (natsOf fs) k = pt := ⟨_, rfl⟩
      obtain ⟨p, hp⟩ : ∃ p, (natsOf fs).getD k 0 = p := ⟨_, rfl⟩
      obtain ⟨r, hr⟩ : ∃ r, endOf n (natsOf fs) k = r := ⟨_, rfl⟩
      rw [hp, hr] at hcw p1
      rw [hp] at p3
      rw [hpt] at p1 p2 p3 hat
      have P1 := Lib.hid p1
      have P2 := Lib.hid p2
      have P3 := Lib.hid p3
      have HT := Lib.hid (sums_take _ hat)
      have hub := height_bd HG.out _ (List.mem_of_getElem? hat)
      obtain ⟨q, hq⟩ : ∃ q, q = ((heightsK bs (natsOf fs)).take k).sum := ⟨_, rfl⟩
      rw [← hq] at HT hsb ⊢
      clear hp hr hpt p1 p2 p3 hcg hat hq
      go_wp2_with fail
      refine (shThick_any _ _ _ pt lo hi _ P1.out P3.out (Nat.le_trans hB hbb.size) P2.out).mono ?_
      rintro e w2 ⟨rfl, hb2⟩
      have hb2' := hb.trans (hb2.mono hb.size)
      obtain ⟨s1, hs1⟩ : ∃ s, (ths pt).sum = s := ⟨_, rfl⟩
      obtain ⟨s2, hs2⟩ : ∃ s, mostOf (ths pt) = s := ⟨_, rfl⟩
      obtain ⟨s3, hs3⟩ : ∃ s, mostOf (tls pt) = s := ⟨_, rfl⟩
      rw [hs3] at HT hub
      rw [hs1, hs2, hs3]
      clear hs1 hs2 hs3
      go_wp2
      go_roundw
      case rel => exact ⟨k + 1, by omega, by go_num, by rw [← HT.out], hb2'⟩
      case measure => simp [intOf]; omega
    · obtain rfl : k = m := by omega
      rw [List.take_of_length_le (by rw [heights_length, HQL.out]; exact Nat.le_refl _)]
      go_wp2
      go_ret
      exact ⟨rfl, hb1.trans (hb.mono hb1.size)⟩

section
variable (A D : Option Addr) (n c m d : Nat) (bs : List (Int × Int)) (width : Int) (fs : List Int) (lo hi lo' hi' : Nat) (w : World) (hn : bs.length = n) (hlen : n ≤ 1048576) (hc : n ≤ c) (hm : fs.length = m) (hm2 : m ≤ 1048576)
    (hs : Seg w lo hi A (flat bs)) (hB : hi ≤ w.heap.size) (ho : Seg w lo' hi' D fs) (hB' : hi' ≤ w.heap.size) (p : Bool) (hp : bothB bs width fs = p)
include hn hlen hc hm hm2 hs hB ho hB' hp

set_option maxHeartbeats 2000000 in
theorem spec_HeightOfCase :
    Calls Try.prog 24 #[.slice A n c, .int .i64 width, .slice D m d] w (RetI (numL p (heightsK bs (natsOf fs)).sum) p w) := by
  have HN := Lib.hid hn
  have HM := Lib.hid hm
  have HP := Lib.hid hp
  cases p
  · clear hn hm hp
    go_enter Try.func24, Try.ntmps24
    go_wp2_with fail
    refine (shBoth_any _ _ _ _ _ _ bs width fs lo hi lo' hi' _ HN.out hlen hc HM.out hm2 hs hB ho hB' _ HP.out).mono ?_
    rintro e w1 ⟨rfl, hb1⟩
    go_wp2
    go_ret2
    exact ⟨rfl, hb1⟩
  · obtain ⟨ha, hri, hfu⟩ := bothB_at hp
    rw [hn] at hri
    obtain ⟨b, off, _, _, rfl, _⟩ := hs.book (k := 0) (by have := (askedK_at ha).1; omega)
    have HRR := Lib.hid hri
    have HG := Lib.hid (goodK_part (asked_good ha))
    clear hn hm hp ha hri hfu
    go_enter Try.func24, Try.ntmps24
    go_wp2_with fail
    refine (shBoth_any _ _ _ _ _ _ bs width fs lo hi lo' hi' _ HN.out hlen hc HM.out hm2 hs hB ho hB' _ HP.out).mono ?_
    rintro e w1 ⟨rfl, hb1⟩
    go_wp2_with fail
    refine (shHeight_any b off n c m d _ bs fs lo hi lo' hi' _ HN.out hc HM.out (hs.below hb1 hB) (Nat.le_trans hB hb1.size) (ho.below hb1 hB') (Nat.le_trans hB' hb1.size) HG.out HRR.out).mono ?_
    rintro e w2 ⟨rfl, hb2⟩
    go_wp2
    go_ret2
    exact ⟨rfl, hb1.trans (hb2.mono hb1.size)⟩
end
end Go.Proofs.Ytmdeijjlcebmaaa

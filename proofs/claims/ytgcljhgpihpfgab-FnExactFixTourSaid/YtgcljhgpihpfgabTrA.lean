/-
  Both programs' answers on tours: is there one, is it served, how full is the van, and what is in it.
  Conditions: none.
-/
import Derived.Test.YtgcljhgpihpfgabTrS
import Derived.Laws.IdiomStrings
namespace Go.Proofs.Ytgcljhgpihpfgab
set_option linter.unusedVariables false
open Go.RowKit

def isTB (s : ByteArray) : Bool := (tourT s).isSome
theorem tourT_some {s : ByteArray} {t : Trip} (h : tourT s = some t) : s.size ≤ 16 ∧ runT (lettersT s) = some t := by
  unfold tourT at h
  split at h
  · exact ⟨by assumption, h⟩
  · cases h
theorem tourT_letters {s : ByteArray} (h : isTB s = true) : s.size ≤ 16 ∧ ∀ c ∈ lettersT s, isLoad c = true ∨ isUnload c = true := by
  obtain ⟨t, ht⟩ := Option.isSome_iff_exists.1 h
  obtain ⟨h1, h2⟩ := tourT_some ht
  exact ⟨h1, runT_tour _ (by rw [h2]; rfl)⟩

set_option maxHeartbeats 1000000 in
theorem ldTour_any (s : ByteArray) (q : Bool) (w : World) (hq : isTB s = q) :
    Calls Try.prog 33 #[.string s] w fun e w' => e = .returned (.bool q) ∧ Below w.heap.size w w' := by
  by_cases hbig : 16 < s.size
  · have hf : q = false := by rw [← hq]; unfold isTB tourT; rw [if_neg (by omega)]; rfl
    subst hf
    clear hq
    go_enter Try.func33, Try.ntmps33
    go_wp2
    go_ret
    exact ⟨rfl, Below.refl _ _⟩
  obtain ⟨L, hL⟩ : ∃ L, lettersT s = L := ⟨_, rfl⟩
  have hLl : L.length = s.size := by rw [← hL, letters_len]
  have HQ := Lib.hid hq
  have HL := Lib.hid hL
  clear hq hL
  go_enter Try.func33, Try.ntmps33
  go_wp2
  go_loopw [3] (fun i wr => ∃ k : Nat, k ≤ s.size ∧ i = .int .i64 (k : Int) ∧ wr = w ∧ Hid (∀ x ∈ L.take k, isLoad x = true ∨ isUnload x = true)) (fun i _ => s.size - (intOf i).toNat)
  case atStart => exact ⟨0, by omega, rfl, rfl, fun x hx => by simp at hx⟩
  case round =>
    obtain ⟨k, hk, rfl, rfl, HALL⟩ := hrel
    by_cases hlt : k < s.size
    · obtain ⟨c, hc⟩ := byte_get s hlt
      have hik := byte_at s hc
      have hcL : L[k]? = some (c.toNat : Int) := by rw [← HL.out]; exact letters_at hc
      obtain ⟨r, hr⟩ : ∃ r : Int, (c.toNat : Int) = r := ⟨_, rfl⟩
      rw [hr] at hcL
      have hik2 : ∀ hk : k < s.size, ((s[k]'hk).toNat : Int) = r := fun hk => by rw [hik hk]; exact hr
      have hr255 : 0 ≤ r ∧ r ≤ 255 := by have := c.toNat_lt; omega
      have hsm := fun W => ldSmall_any r W hr255
      have h32 := smallT_32 (c := r) (by omega)
      by_cases hlu : isLoad r = true ∨ isUnload r = true
      · have hne : (smallT r == 32) = false := beq_eq_false_iff_ne.2 fun e => (h32.1 e) hlu
        generalize smallT r = u at *
        have HS := Lib.hid hsm
        have HC := Lib.hid hcL
        have HU := Lib.hid hlu
        clear hc hik hcL hr hsm h32 hlu
        go_wp2_with fail
        refine (HS.out _).mono ?_
        rintro e w2 ⟨rfl, rfl⟩
        go_wp2
        go_roundw
        case rel =>
          refine ⟨k + 1, by omega, by go_num, by first | rfl | trivial, fun x hx => ?_⟩
          rw [List.take_add_one, HC.out] at hx
          rcases List.mem_append.1 hx with hx | hx
          · exact HALL.out x hx
          · rw [List.mem_singleton.1 hx]; exact HU.out
        case measure => simp [intOf]; omega
      · have heq : smallT r = 32 := h32.2 hlu
        rw [heq] at hsm
        have hf : q = false := by
          rw [← HQ.out]
          cases e : isTB s with
          | false => rfl
          | true =>
            have := (tourT_letters e).2 r (by rw [HL.out]; exact List.mem_of_getElem? hcL)
            exact absurd this hlu
        subst hf
        have HS := Lib.hid hsm
        clear hc hik hcL hr hsm h32 hlu heq
        go_wp2_with fail
        refine (HS.out _).mono ?_
        rintro e w2 ⟨rfl, rfl⟩
        go_wp2
        go_ret
        exact ⟨rfl, Below.refl _ _⟩
    · obtain rfl : k = s.size := by omega
      have hall : ∀ c ∈ lettersT s, isLoad c = true ∨ isUnload c = true := by
        intro c hc
        have := HALL.out c
        rw [List.take_of_length_le (by omega)] at this
        rw [HL.out] at hc
        exact this hc
      have hop := ldOpen_any s wr (by omega) hall
      have HOP := Lib.hid hop
      have hqq : (runT (lettersT s)).isSome = q := by rw [← HQ.out]; unfold isTB tourT; rw [if_pos (by omega)]
      have HQQ := Lib.hid hqq
      clear hop hqq hall
      go_wp2_with fail
      refine HOP.out.mono ?_
      rintro e w2 ⟨hb, he⟩
      cases hrt : runT (lettersT s) with
      | none =>
        rw [hrt] at he
        have hf : q = false := by rw [← HQQ.out, hrt]; rfl
        subst he hf
        clear hrt
        go_wp2
        go_ret
        exact ⟨rfl, hb⟩
      | some t =>
        rw [hrt] at he
        have hf : q = true := by rw [← HQQ.out, hrt]; rfl
        subst he hf
        clear hrt
        go_wp2
        go_ret
        exact ⟨rfl, hb⟩

theorem spec_IsTour (s : ByteArray) (q : Bool) (w : World) (hq : isTB s = q) :
    Calls Try.prog 13 #[.string s] w fun e w' => e = .returned (.bool q) ∧ Below w.heap.size w w' := by
  have HC := Lib.hid (ldTour_any s q w hq)
  clear hq
  go_enter Try.func13, Try.ntmps13
  go_wp2_with fail
  refine HC.out.mono ?_
  rintro e w1 ⟨rfl, hb⟩
  go_wp2
  go_ret
  exact ⟨rfl, hb⟩

/-- What 'tripOf' answers, by cases. -/
theorem trip_no (s : ByteArray) (w : World) (h : isTB s = false) :
    Calls Try.prog 34 #[.string s] w fun e w' => e = .returned (.tuple #[.agg #[.slice none 0 0, .slice none 0 0, .int .i64 0, .bool false], .bool false]) ∧ Below w.heap.size w w' := by
  have ht : tourT s = none := by unfold isTB at h; cases e : tourT s with | none => rfl | some t => rw [e] at h; cases h
  refine (tripOf_any s w).mono fun e w' h => ?_
  unfold TripRet at h
  rw [ht] at h
  exact h
theorem trip_yes (s : ByteArray) (t : Trip) (w : World) (h : tourT s = some t) :
    Calls Try.prog 34 #[.string s] w fun e w' => ∃ A n c B m d, e = .returned (.tuple #[.agg #[.slice A n c, .slice B m d, .int .i64 t.full, .bool t.blk], .bool true]) ∧ Below w.heap.size w w' ∧ OwnU w' w.heap.size A n c t.ld ∧ OwnU w' w.heap.size B m d t.op := by
  refine (tripOf_any s w).mono fun e w' hh => ?_
  unfold TripRet at hh
  rw [h] at hh
  exact hh

theorem impl_IsTour (s : ByteArray) (q : Bool) (w : World) (hq : isTB s = q) :
    Calls Try.prog 14 #[.string s] w fun e w' => e = .returned (.bool q) ∧ Below w.heap.size w w' := by
  cases q
  · have HC := Lib.hid (trip_no s w hq)
    clear hq
    go_enter Try.func14, Try.ntmps14
    go_wp2_with fail
    refine HC.out.mono ?_
    rintro e w1 ⟨rfl, hb⟩
    have hb2 := hb.alloc hb.size (.cells #[.slice none 0 0, .slice none 0 0, .int .i64 0, .bool false] 37)
    go_wp2
    go_ret
    exact ⟨rfl, hb2⟩
  · obtain ⟨t, ht⟩ := Option.isSome_iff_exists.1 hq
    have HC := Lib.hid (trip_yes s t w ht)
    clear hq ht
    go_enter Try.func14, Try.ntmps14
    go_wp2_with fail
    refine HC.out.mono ?_
    rintro e w1 ⟨A, n, c, B, m, d, rfl, hb, hA, hB⟩
    have hb2 := hb.alloc hb.size (.cells #[.slice A n c, .slice B m d, .int .i64 t.full, .bool t.blk] 37)
    clear hA hB
    go_wp2
    go_ret
    exact ⟨rfl, hb2⟩

/-- Served: nothing is left, and nothing was in the way. -/
def servB (s : ByteArray) : Bool := match tourT s with | some t => t.op.isEmpty && !t.blk | none => false
theorem servB_some {s : ByteArray} {t : Trip} (h : tourT s = some t) : servB s = (t.op.isEmpty && !t.blk) := by unfold servB; rw [h]
def fullI (s : ByteArray) : Int := match tourT s with | some t => t.full | none => 0
theorem fullI_some {s : ByteArray} {t : Trip} (h : tourT s = some t) : fullI s = t.full := by unfold fullI; rw [h]


theorem ldOpen_some (s : ByteArray) (t : Trip) (w : World) (h : tourT s = some t) :
    Calls Try.prog 35 #[.string s] w fun e w' => e = .returned (.tuple #[.string (strU t.op), .bool true, .bool (!t.blk)]) ∧ Below w.heap.size w w' := by
  have h1 := tourT_some h
  have h2 := (tourT_letters (s := s) (by unfold isTB; rw [h]; rfl)).2
  refine (ldOpen_any s w h1.1 h2).mono fun e w' hh => ?_
  obtain ⟨hb, he⟩ := hh
  rw [h1.2] at he
  exact ⟨he, hb⟩

theorem strU_empty (xs : List Int) : ((strU xs).toList == (⟨#[]⟩ : ByteArray).toList) = xs.isEmpty := by
  rw [strU, ByteArray.toList_mk]
  have : (⟨#[]⟩ : ByteArray).toList = [] := ByteArray.toList_mk []
  rw [this]
  cases xs with
  | nil => rfl
  | cons x xs => rfl

theorem strU_none (xs : List Int) : (strU xs).toList.isEmpty = xs.isEmpty := by
  rw [strU, ByteArray.toList_mk]
  cases xs with
  | nil => rfl
  | cons x xs => rfl

theorem spec_IsServed (s : ByteArray) (q : Bool) (w : World) (hq : isTB s = q) (v : Bool) (hv : servB s = v) :
    Calls Try.prog 15 #[.string s] w fun e w' => e = .returned (.tuple #[.bool (if q then v else false), .bool q]) ∧ Below w.heap.size w w' := by
  have HC := Lib.hid (ldTour_any s q w hq)
  cases q
  · clear hq hv
    go_enter Try.func15, Try.ntmps15
    go_wp2_with fail
    refine HC.out.mono ?_
    rintro e w1 ⟨rfl, hb⟩
    go_wp2
    go_ret2
    exact ⟨rfl, hb⟩
  · obtain ⟨t, ht⟩ := Option.isSome_iff_exists.1 hq
    rw [servB_some ht] at hv
    have HO := Lib.hid (fun W => ldOpen_some s t W ht)
    have he := strU_empty t.op
    have he2 := strU_none t.op
    obtain ⟨o, ho⟩ : ∃ o, strU t.op = o := ⟨_, rfl⟩
    rw [ho] at HO he he2
    obtain ⟨bk, hbk⟩ : ∃ bk, t.blk = bk := ⟨_, rfl⟩
    rw [hbk] at HO hv
    obtain ⟨em, hem⟩ : ∃ em, t.op.isEmpty = em := ⟨_, rfl⟩
    rw [hem] at he he2 hv
    clear hq ht ho hbk hem
    subst hv
    cases em <;> cases bk
    all_goals
      go_enter Try.func15, Try.ntmps15
      go_wp2_with fail
      refine HC.out.mono ?_
      rintro e w1 ⟨rfl, hb⟩
      go_wp2_with fail
      refine (HO.out _).mono ?_
      rintro e w2 ⟨rfl, hb2⟩
      have hbb := hb.trans (hb2.mono hb.size)
      clear hb hb2
      go_wp2
      go_ret2
      exact ⟨by first | rfl | simp, hbb⟩

theorem impl_IsServed (s : ByteArray) (q : Bool) (w : World) (hq : isTB s = q) (v : Bool) (hv : servB s = v) :
    Calls Try.prog 16 #[.string s] w fun e w' => e = .returned (.tuple #[.bool (if q then v else false), .bool q]) ∧ Below w.heap.size w w' := by
  cases q
  · have HC := Lib.hid (trip_no s w hq)
    clear hq hv
    go_enter Try.func16, Try.ntmps16
    go_wp2_with fail
    refine HC.out.mono ?_
    rintro e w1 ⟨rfl, hb⟩
    have hb2 := hb.alloc hb.size (.cells #[.slice none 0 0, .slice none 0 0, .int .i64 0, .bool false] 37)
    go_wp2
    go_ret2
    exact ⟨rfl, hb2⟩
  · obtain ⟨t, ht⟩ := Option.isSome_iff_exists.1 hq
    rw [servB_some ht] at hv
    have HC := Lib.hid (trip_yes s t w ht)
    clear hq ht
    obtain ⟨bk, hbk⟩ : ∃ bk, t.blk = bk := ⟨_, rfl⟩
    rw [hbk] at HC hv
    clear hbk
    subst hv
    by_cases hem : t.op = []
    · have h1 : t.op.isEmpty = true := by rw [hem]; rfl
      rw [h1]
      have HE := Lib.hid hem
      clear h1 hem
      cases bk
      all_goals
        go_enter Try.func16, Try.ntmps16
        go_wp2_with fail
        refine HC.out.mono ?_
        rintro e w1 ⟨A, n, c, B, m, d, rfl, hb, hA, hB⟩
        have hl := hB.len
        rw [HE.out] at hl
        obtain rfl : m = 0 := by simpa using hl.symm
        clear hA hB hl
        go_wp2
        go_ret2
        exact ⟨rfl, hb.alloc hb.size _⟩
    · have h1 : t.op.isEmpty = false := by cases e : t.op with | nil => exact absurd e hem | cons x xs => rfl
      rw [h1]
      have HE := Lib.hid hem
      clear h1 hem
      go_enter Try.func16, Try.ntmps16
      go_wp2_with fail
      refine HC.out.mono ?_
      rintro e w1 ⟨A, n, c, B, m, d, rfl, hb, hA, hB⟩
      have hl := hB.len
      have hm : ((m : Int) == 0) = false := beq_eq_false_iff_ne.2 fun e => HE.out (List.length_eq_zero_iff.1 (by omega))
      clear hA hB hl
      go_wp2
      go_ret2
      exact ⟨rfl, hb.alloc hb.size _⟩

theorem impl_FullestOf (s : ByteArray) (q : Bool) (w : World) (hq : isTB s = q) (v : Int) (hv : fullI s = v) :
    Calls Try.prog 18 #[.string s] w fun e w' => e = .returned (.tuple #[.int .i64 (if q then v else 0), .bool q]) ∧ Below w.heap.size w w' := by
  cases q
  · have HC := Lib.hid (trip_no s w hq)
    clear hq hv
    go_enter Try.func18, Try.ntmps18
    go_wp2_with fail
    refine HC.out.mono ?_
    rintro e w1 ⟨rfl, hb⟩
    have hb2 := hb.alloc hb.size (.cells #[.slice none 0 0, .slice none 0 0, .int .i64 0, .bool false] 37)
    go_wp2
    go_ret2
    exact ⟨rfl, hb2⟩
  · obtain ⟨t, ht⟩ := Option.isSome_iff_exists.1 hq
    rw [fullI_some ht] at hv
    have HC := Lib.hid (trip_yes s t w ht)
    rw [hv] at HC
    clear hq ht hv
    go_enter Try.func18, Try.ntmps18
    go_wp2_with fail
    refine HC.out.mono ?_
    rintro e w1 ⟨A, n, c, B, m, d, rfl, hb, hA, hB⟩
    clear hA hB
    go_wp2
    go_ret2
    exact ⟨rfl, hb.alloc hb.size _⟩

theorem tour_part {s p : ByteArray} {t : Trip} {k : Nat} (h : tourT s = some t) (hp : lettersT p = (lettersT s).take k) (hs : p.size ≤ s.size) : ∃ t', runT ((lettersT s).take k) = some t' ∧ tourT p = some t' := by
  obtain ⟨h1, h2⟩ := tourT_some h
  obtain ⟨t', ht'⟩ := runT_part k h2
  refine ⟨t', ht', ?_⟩
  unfold tourT
  rw [if_pos (by omega), hp]
  exact ht'
theorem part_letters (s : ByteArray) (k : Nat) : lettersT (s.extract 0 k) = (lettersT s).take k := by
  unfold lettersT
  have : (s.extract 0 k).data.toList = s.data.toList.take k := by rw [ByteArray.data_extract, Array.toList_extract, List.extract_eq_take_drop]; simp
  rw [this]
  unfold u8
  rw [List.map_take]
theorem part_len (s : ByteArray) {k : Nat} (h : k ≤ s.size) : (s.extract 0 k).size = k := by
  have h1 := letters_len (s.extract 0 k)
  rw [part_letters, List.length_take, letters_len] at h1
  omega

theorem l1Most_any (a b : Int) (w : World) :
    Calls Try.prog 36 #[.int .i64 a, .int .i64 b] w fun e w' => e = .returned (.int .i64 (max a b)) ∧ w = w' := by
  by_cases h : b < a
  · have d : decide (a > b) = true := decide_eq_true h
    rw [show max a b = a by omega]
    go_enter Try.func36, Try.ntmps36
    go_wp2
    go_ret
    exact ⟨rfl, rfl⟩
  · have d : decide (a > b) = false := decide_eq_false h
    rw [show max a b = b by omega]
    go_enter Try.func36, Try.ntmps36
    go_wp2
    go_ret
    exact ⟨rfl, rfl⟩

/-- The most boxes behind the first letters, so many. -/
def mostK (L : List Int) (k : Nat) : Int := ((List.range k).map (opAt L)).foldl max 0
theorem mostK_succ (L : List Int) (k : Nat) : mostK L (k + 1) = max (mostK L k) (opAt L k) := by
  unfold mostK
  rw [List.range_succ, List.map_append, List.foldl_append]; rfl

set_option maxHeartbeats 1000000 in
theorem spec_FullestOf (s : ByteArray) (q : Bool) (w : World) (hq : isTB s = q) (v : Int) (hv : fullI s = v) :
    Calls Try.prog 17 #[.string s] w fun e w' => e = .returned (.tuple #[.int .i64 (if q then v else 0), .bool q]) ∧ Below w.heap.size w w' := by
  have HC := Lib.hid (ldTour_any s q w hq)
  cases q
  · clear hq hv
    go_enter Try.func17, Try.ntmps17
    go_wp2_with fail
    refine HC.out.mono ?_
    rintro e w1 ⟨rfl, hb⟩
    go_wp2
    go_ret2
    exact ⟨rfl, hb⟩
  · obtain ⟨t, ht⟩ := Option.isSome_iff_exists.1 hq
    rw [fullI_some ht, full_most (tourT_some ht).2] at hv
    have hv2 : mostK (lettersT s) (s.size + 1) = v := by rw [← hv, letters_len]; rfl
    have hsz := (tourT_some ht).1
    have HT := Lib.hid ht
    have HV := Lib.hid hv2
    clear hq ht hv hv2
    go_enter Try.func17, Try.ntmps17
    go_wp2_with fail
    refine HC.out.mono ?_
    rintro e w1 ⟨rfl, hb⟩
    have HB := Lib.hid hb
    clear hb HC
    go_wp2
    go_loopw [4, 5] (fun m i wr => ∃ k : Nat, k ≤ s.size + 1 ∧ i = .int .i64 (k : Int) ∧ m = .int .i64 (mostK (lettersT s) k) ∧ Below w.heap.size w wr) (fun _ i _ => s.size + 1 - (intOf i).toNat)
    case atStart => exact ⟨0, by omega, rfl, rfl, HB.out⟩
    case round =>
      obtain ⟨k, hk, rfl, rfl, hb⟩ := hrel
      by_cases hlt : k ≤ s.size
      · have d1 : ((k : Int) ≤ (s.size : Int)) := by omega
        have hsl := fun W => run_slice_string_to_if (P := Try.prog) W 9 s .i64 (k : Int) Try.underlying9
        simp only [d1, Int.natCast_nonneg, and_self, if_true, Int.toNat_natCast] at hsl
        have hpl := part_letters s k
        have hps := part_len s hlt
        obtain ⟨p, hp⟩ : ∃ p, s.extract 0 k = p := ⟨_, rfl⟩
        rw [hp] at hpl hps hsl
        obtain ⟨t', hrt, htp⟩ := tour_part (p := p) HT.out hpl (by omega)
        have hop := fun W => ldOpen_some p t' W htp
        have hst := mostK_succ (lettersT s) k
        have hopk : opAt (lettersT s) k = (t'.op.length : Int) := by unfold opAt; rw [hrt]
        rw [hopk] at hst
        have hsz2 := strU_size t'.op
        obtain ⟨o, ho⟩ : ∃ o, strU t'.op = o := ⟨_, rfl⟩
        rw [ho] at hop hsz2
        have hoz : (o.size : Int) = (t'.op.length : Int) := by omega
        generalize (t'.op.length : Int) = ol at *
        have HO := Lib.hid hop
        have HS := Lib.hid hst
        have HZ := Lib.hid hoz
        have HBB := Lib.hid hb
        generalize mostK (lettersT s) k = mo at *
        clear hpl hps hrt htp hop hst hopk hsz2 ho hoz hb hp
        go_wp2_with fail
        refine (HO.out _).mono ?_
        rintro e w2 ⟨rfl, hb2⟩
        have hb3 := HBB.out.trans (hb2.mono HBB.out.size)
        clear hb2
        go_wp2_with fail
        rw [HZ.out]
        refine (l1Most_any _ _ _).mono ?_
        rintro e w3 ⟨rfl, rfl⟩
        go_wp2
        go_roundw
        case rel => exact ⟨k + 1, by omega, by go_num, by rw [HS.out], hb3⟩
        case measure => simp [intOf]; omega
      · obtain rfl : k = s.size + 1 := by omega
        have d1 : decide (((s.size + 1 : Nat) : Int) ≤ (s.size : Int)) = false := decide_eq_false (by omega)
        rw [HV.out]
        go_wp2
        go_ret2
        exact ⟨rfl, hb⟩

/-- What is in the van behind so many letters. -/
def openS (s : ByteArray) (k : Int) : ByteArray := match runT ((lettersT s).take k.toNat) with | some t => strU t.op | none => ⟨#[]⟩
/-- Can the question be asked? -/
def askT (s : ByteArray) (k : Int) : Bool := isTB s && inB k 0 (s.size : Int)

set_option maxRecDepth 100000 in
theorem spec_OpenAfter (s : ByteArray) (k : Int) (q : Bool) (w : World) (hq : askT s k = q) (v : ByteArray) (hv : openS s k = v) :
    Calls Try.prog 19 #[.string s, .int .i64 k] w fun e w' => e = .returned (.tuple #[.string (if q then v else ⟨#[]⟩), .bool q]) ∧ Below w.heap.size w w' := by
  obtain ⟨q1, hq1⟩ : ∃ q1, isTB s = q1 := ⟨_, rfl⟩
  obtain ⟨q2, hq2⟩ : ∃ q2, inB k 0 (s.size : Int) = q2 := ⟨_, rfl⟩
  have HC := Lib.hid (ldTour_any s q1 w hq1)
  have HI := Lib.hid (fun W => l1In_any k 0 (s.size : Int) q2 hq2 W)
  unfold askT at hq
  rw [hq1, hq2] at hq
  cases q1
  · have hf : q = false := hq.symm
    subst hf
    clear hq hv hq1 hq2
    go_enter Try.func19, Try.ntmps19
    go_wp2_with fail
    refine HC.out.mono ?_
    rintro e w1 ⟨rfl, hb⟩
    go_wp2
    go_ret2
    exact ⟨rfl, hb⟩
  cases q2
  · have hf : q = false := hq.symm
    subst hf
    clear hq hv hq1 hq2
    go_enter Try.func19, Try.ntmps19
    go_wp2_with fail
    refine HC.out.mono ?_
    rintro e w1 ⟨rfl, hb⟩
    go_wp2_with fail
    refine (HI.out _).mono ?_
    rintro e w2 ⟨rfl, rfl⟩
    go_wp2
    go_ret2
    exact ⟨rfl, hb⟩
  have hf : q = true := hq.symm
  subst hf
  have hk := inB_true.1 hq2
  obtain ⟨n, rfl⟩ : ∃ n : Nat, k = n := ⟨k.toNat, by omega⟩
  obtain ⟨t, ht⟩ := Option.isSome_iff_exists.1 hq1
  have hsl := fun W => run_slice_string_to_if (P := Try.prog) W 9 s .i64 (n : Int) Try.underlying9
  have hnk : (n : Int) ≤ (s.size : Int) := hk.2
  simp only [hnk, Int.natCast_nonneg, and_self, if_true, Int.toNat_natCast] at hsl
  have hpl := part_letters s n
  have hps := part_len s (k := n) (by omega)
  obtain ⟨p, hp⟩ : ∃ p, s.extract 0 n = p := ⟨_, rfl⟩
  rw [hp] at hpl hps hsl
  obtain ⟨t', hrt, htp⟩ := tour_part (p := p) ht hpl (by omega)
  have HO := Lib.hid (fun W => ldOpen_some p t' W htp)
  have hvv : strU t'.op = v := by rw [← hv]; unfold openS; rw [Int.toNat_natCast, hrt]
  rw [hvv] at HO
  clear hq hv hq1 hq2 ht hpl hps hp hrt htp hvv hk
  go_enter Try.func19, Try.ntmps19
  go_wp2_with fail
  refine HC.out.mono ?_
  rintro e w1 ⟨rfl, hb⟩
  go_wp2_with fail
  refine (HI.out _).mono ?_
  rintro e w2 ⟨rfl, rfl⟩
  go_wp2_with fail
  refine (HO.out _).mono ?_
  rintro e w3 ⟨rfl, hb3⟩
  have hbb := hb.trans (hb3.mono hb.size)
  clear hb hb3
  go_wp2
  go_ret2
  exact ⟨rfl, hbb⟩

set_option maxRecDepth 100000 in
theorem row_text {w : World} {base n c : Nat} {B : Option Addr} {xs : List Int} (h : OwnU w base B n c xs) (hx : ∀ x ∈ xs, 0 ≤ x ∧ x ≤ 255) :
    (convert 35 9 (.slice B n c)).run Try.prog w = .ok (.string (strU xs)) w := by
  have hl := h.len
  rcases id h.2 with ⟨h', hn⟩ | ⟨g, cap, cur, h', hb, hg, hnc, _⟩
  · injection h' with h1 h2 h3
    subst h1 h2 h3
    obtain rfl : xs = [] := List.length_eq_zero_iff.1 hl
    rw [run_convert_bytes_string w 35 9 5 none 0 0 Try.underlying35 Try.underlying5 Try.underlying9]
    rfl
  · injection h' with h1 h2 h3
    subst h1 h3
    have hbk := run_convert_bytes_back (P := Try.prog) w 35 9 5 ⟨g, 0, none⟩ c (ofI xs) Try.underlying35 Try.underlying5 Try.underlying9 (fun j hj => by
      rw [ofI_len] at hj
      obtain ⟨u, hu⟩ : ∃ u, xs[j]? = some u := ⟨_, List.getElem?_eq_getElem hj⟩
      rw [Addr.add_lit, Nat.zero_add, h.cellAt j (by omega), List.getElem?_map, hu]
      have hux := hx u (List.mem_of_getElem? hu)
      have h5 : (ofI xs)[j]'(by rw [ofI_len]; exact hj) = UInt8.ofNat u.toNat := by
        have h6 : (ofI xs)[j]? = some (UInt8.ofNat u.toNat) := by simp [ofI, hu]
        exact (List.getElem?_eq_some_iff.1 h6).2
      rw [h5]
      show some (Value.int .u8 u) = some (.int .u8 ((UInt8.ofNat u.toNat).toNat : Int))
      rw [UInt8.toNat_ofNat', show ((u.toNat % 2 ^ 8 : Nat) : Int) = u by omega])
    rw [ofI_len, hl] at hbk
    exact hbk

set_option maxRecDepth 100000 in
set_option maxHeartbeats 1000000 in
theorem impl_OpenAfter (s : ByteArray) (k : Int) (q : Bool) (w : World) (hq : askT s k = q) (v : ByteArray) (hv : openS s k = v) :
    Calls Try.prog 20 #[.string s, .int .i64 k] w fun e w' => e = .returned (.tuple #[.string (if q then v else ⟨#[]⟩), .bool q]) ∧ Below w.heap.size w w' := by
  obtain ⟨q1, hq1⟩ : ∃ q1, isTB s = q1 := ⟨_, rfl⟩
  have HC := Lib.hid (impl_IsTour s q1 w hq1)
  unfold askT at hq
  rw [hq1] at hq
  cases q1
  · have hf : q = false := hq.symm
    subst hf
    clear hq hv hq1
    go_enter Try.func20, Try.ntmps20
    go_wp2_with fail
    refine HC.out.mono ?_
    rintro e w1 ⟨rfl, hb⟩
    go_wp2
    go_ret2
    exact ⟨rfl, hb⟩
  rw [Bool.true_and] at hq
  by_cases h0 : k < 0
  · have hf : q = false := by rw [← hq]; exact inB_false.2 (by omega)
    subst hf
    have d1 : decide (k < 0) = true := decide_eq_true h0
    clear hq hv hq1
    go_enter Try.func20, Try.ntmps20
    go_wp2_with fail
    refine HC.out.mono ?_
    rintro e w1 ⟨rfl, hb⟩
    go_wp2
    go_ret2
    exact ⟨rfl, hb⟩
  have d1 : decide (k < 0) = false := decide_eq_false h0
  by_cases h1 : (s.size : Int) < k
  · have hf : q = false := by rw [← hq]; exact inB_false.2 (by omega)
    subst hf
    have d2 : decide (k > (s.size : Int)) = true := decide_eq_true h1
    clear hq hv hq1
    go_enter Try.func20, Try.ntmps20
    go_wp2_with fail
    refine HC.out.mono ?_
    rintro e w1 ⟨rfl, hb⟩
    go_wp2
    go_ret2
    exact ⟨rfl, hb⟩
  have hf : q = true := by rw [← hq]; exact inB_true.2 (by omega)
  subst hf
  obtain ⟨n, rfl⟩ : ∃ n : Nat, k = n := ⟨k.toNat, by omega⟩
  have hnk : (n : Int) ≤ (s.size : Int) := by omega
  obtain ⟨t, ht⟩ := Option.isSome_iff_exists.1 hq1
  have hsl := fun W => run_slice_string_to_if (P := Try.prog) W 9 s .i64 (n : Int) Try.underlying9
  simp only [hnk, Int.natCast_nonneg, and_self, if_true, Int.toNat_natCast] at hsl
  have hpl := part_letters s n
  have hps := part_len s (k := n) (by omega)
  obtain ⟨p, hp⟩ : ∃ p, s.extract 0 n = p := ⟨_, rfl⟩
  rw [hp] at hpl hps hsl
  obtain ⟨t', hrt, htp⟩ := tour_part (p := p) ht hpl (by omega)
  have hopr : ∀ x ∈ t'.op, 0 ≤ x ∧ x ≤ 255 := fun x hx => by have := isLoad_true.1 ((runT_keeps hrt).2.2.2.1 x hx); omega
  have HT := Lib.hid (fun W => trip_yes p t' W htp)
  have hvv : strU t'.op = v := by rw [← hv]; unfold openS; rw [Int.toNat_natCast, hrt]
  have HVV := Lib.hid hvv
  have HOR := Lib.hid hopr
  have d2 : decide ((n : Int) > (s.size : Int)) = false := decide_eq_false (by omega)
  clear hq hv hq1 ht hpl hps hp hrt htp hvv hopr h0 h1
  go_enter Try.func20, Try.ntmps20
  go_wp2_with fail
  refine HC.out.mono ?_
  rintro e w1 ⟨rfl, hb⟩
  go_wp2_with fail
  refine (HT.out _).mono ?_
  rintro e w3 ⟨A, n', c, B, m, d, rfl, hb3, hA, hB⟩
  have hbb := (hb.trans (hb3.mono hb.size)).alloc (hb.trans (hb3.mono hb.size)).size (.cells #[.slice A n' c, .slice B m d, .int .i64 t'.full, .bool t'.blk] 37)
  have htx := row_text (hB.alloc (.cells #[.slice A n' c, .slice B m d, .int .i64 t'.full, .bool t'.blk] 37)) HOR.out
  rw [HVV.out] at htx
  clear hb hb3 hA hB
  go_wp2
  go_ret2
  exact ⟨rfl, hbb⟩
end Go.Proofs.Ytgcljhgpihpfgab

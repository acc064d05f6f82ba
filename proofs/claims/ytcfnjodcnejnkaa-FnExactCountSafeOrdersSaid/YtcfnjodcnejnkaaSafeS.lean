/-
  The given program's counts of safe stacks, and first safe stacks.
  Conditions: the list has at most 1048576 things.
-/
import Derived.Test.YtcfnjodcnejnkaaSafeM
namespace Go.Proofs.Ytcfnjodcnejnkaa
set_option linter.unusedVariables false
open Go.RowKit

theorem ask_casesS {ts : List (Int × Int × Int)} {many : Int} {q : Bool} {n : Nat} (hn : ts.length = n) (h : askC ts many = q) :
    (q = false ∧ goodT ts = false) ∨ (goodT ts = true ∧ inB many 0 (n : Int) = q) := by
  rw [← h, ← hn]; unfold askC
  cases goodT ts
  · exact .inl ⟨rfl, rfl⟩
  · exact .inr ⟨rfl, by rw [Bool.true_and]⟩

set_option maxRecDepth 100000 in
set_option maxHeartbeats 2000000 in
theorem spec_CountSafe (A : Option Addr) (n c : Nat) (ts : List (Int × Int × Int)) (many : Int) (lo hi : Nat) (w : World) (hn : ts.length = n) (hlen : n ≤ 1048576) (hs : Seg w lo hi A (flat3 ts)) (hB : hi ≤ w.heap.size) (q : Bool) (hq : askC ts many = q) :
    Calls Try.prog 40 #[.slice A n c, .int .i64 many] w (RetI (if q = true then (cntT many (fullT ts) : Nat) else 0) q w) := by
  have HN := Lib.hid hn
  rcases ask_casesS hn hq with ⟨rfl, h1⟩ | ⟨h1, h2⟩
  · have HG := Lib.hid h1
    clear hn hq h1
    go_enter Try.func40, Try.ntmps40
    go_wp2_with fail
    refine (scGood_any _ _ _ ts lo hi _ HN.out hlen hs hB _ HG.out).mono ?_
    rintro e w1 ⟨rfl, hb1⟩
    go_wp2
    go_ret2
    exact ⟨rfl, hb1⟩
  · have HG := Lib.hid h1
    have HI := Lib.hid h2
    have HALL := Lib.hid (show allS ts n [] = fullT ts by rw [← hn, fullT_all])
    have HFW := Lib.hid (fullT_len HG.out)
    clear hn hq h1 h2
    cases q
    · go_enter Try.func40, Try.ntmps40
      go_wp2_with fail
      refine (scGood_any _ _ _ ts lo hi _ HN.out hlen hs hB _ HG.out).mono ?_
      rintro e w1 ⟨rfl, hb1⟩
      go_wp2_with fail
      refine (l1In_any _ _ _ false HI.out _).mono ?_
      rintro e w' ⟨rfl, rfl⟩
      go_wp2
      go_ret2
      exact ⟨rfl, hb1⟩
    · go_enter Try.func40, Try.ntmps40
      go_wp2_with fail
      refine (scGood_any _ _ _ ts lo hi _ HN.out hlen hs hB _ HG.out).mono ?_
      rintro e w1 ⟨rfl, hb1⟩
      go_wp2_with fail
      refine (l1In_any _ _ _ true HI.out _).mono ?_
      rintro e w' ⟨rfl, rfl⟩
      have hz1 := hb1.size
      have HB1 := Lib.hid hb1
      clear hb1
      go_wp2_with fail
      refine (scAll_any A n c ts lo hi HN.out HG.out n [] 0 0 none 0 0 _ (Nat.add_zero n) rfl (Nat.le_refl _) (stackB_nil _) (hs.below HB1.out hB) (by omega) Seg.nil_ (Nat.zero_le _)).mono ?_
      rw [HALL.out]
      rintro e w2 ⟨A2, n2, c2, vs, rfl, hl2, hr2, hb2⟩
      have hz2 := hb2.size
      have HR2 := Lib.hid hr2
      have HL2 := Lib.hid hl2
      have hn2b : n2 ≤ 960800 := by rw [← hl2]; exact HFW.out
      clear hl2 hr2
      have HB2 := Lib.hid (HB1.out.trans (hb2.mono hz1))
      clear hb2
      go_wp2
      go_loop [6, 22] (fun v i => ∃ k : Nat, k ≤ n2 ∧ i = .int .i64 k ∧ v = .int .i64 (cntT many ((fullT ts).take k) : Nat)) (fun _ i => n2 - (intOf i).toNat)
      case atStart => exact ⟨0, Nat.zero_le _, rfl, rfl⟩
      case round =>
        obtain ⟨k, hk, rfl, rfl⟩ := hrel
        by_cases hlt : k < n2
        · obtain ⟨xs, hxs⟩ : ∃ xs, (fullT ts)[k]? = some xs := ⟨_, List.getElem?_eq_getElem (by rw [HL2.out]; exact hlt)⟩
          obtain ⟨g, B, d, rfl, _, hgl, hcx, hox⟩ := HR2.out.at_ hxs
          have HX := Lib.hid hxs
          have HT := Lib.hid (take_next hxs)
          have hcl := cntT_le many ((fullT ts).take k)
          have hcb : cntT many ((fullT ts).take k) ≤ 960800 := Nat.le_trans hcl (Nat.le_trans (by rw [List.length_take]; exact Nat.min_le_right _ _) HFW.out)
          obtain ⟨cn, hcn⟩ : ∃ cn, cntT many ((fullT ts).take k) = cn := ⟨_, rfl⟩
          rw [hcn] at hcb ⊢
          have HCN := Lib.hid hcn
          obtain ⟨xl, hxl⟩ : ∃ xl, xs.length = xl := ⟨_, rfl⟩
          rw [hxl] at hcx
          have HXL := Lib.hid hxl
          clear hxs hcl hcn hxl hox
          by_cases he : (xl : Int) = many
          · have HY := Lib.hid (show cntT many ((fullT ts).take (k + 1)) = cn + 1 by rw [HT.out, cntT_yes (by rw [HXL.out]; exact he), HCN.out])
            have hee : ((xl : Int) == many) = true := by rw [beq_iff_eq]; exact he
            clear he
            go_wp2
            go_round
            case rel => exact ⟨k + 1, by omega, by go_num, by rw [HY.out]; rfl⟩
            case measure => simp [intOf]; omega
          · have HY := Lib.hid (show cntT many ((fullT ts).take (k + 1)) = cn by rw [HT.out, cntT_no (by rw [HXL.out]; exact he), HCN.out])
            have hee : ((xl : Int) == many) = false := by rw [beq_eq_false_iff_ne]; exact he
            clear he
            go_wp2
            go_round
            case rel => exact ⟨k + 1, by omega, by go_num, by rw [HY.out]⟩
            case measure => simp [intOf]; omega
        · obtain rfl : k = n2 := by omega
          have HE := Lib.hid (show (fullT ts).take k = fullT ts by rw [← HL2.out, List.take_length])
          go_wp2
          go_ret2
          exact ⟨by rw [HE.out]; rfl, HB2.out⟩

set_option maxRecDepth 100000 in
set_option maxHeartbeats 2000000 in
theorem spec_MostStacked (A : Option Addr) (n c : Nat) (ts : List (Int × Int × Int)) (lo hi : Nat) (w : World) (hn : ts.length = n) (hlen : n ≤ 1048576) (hs : Seg w lo hi A (flat3 ts)) (hB : hi ≤ w.heap.size) (q : Bool) (hq : goodT ts = q) :
    Calls Try.prog 44 #[.slice A n c] w (RetL q (someN q (firstS ts)) w) := by
  have HN := Lib.hid hn
  have HG := Lib.hid hq
  cases q
  · clear hn hq
    go_enter Try.func44, Try.ntmps44
    go_wp2_with fail
    refine (scGood_any _ _ _ ts lo hi _ HN.out hlen hs hB _ HG.out).mono ?_
    rintro e w1 ⟨rfl, hb1⟩
    go_wp2
    go_ret2
    exact ⟨none, 0, 0, rfl, rfl, Own.nil_, hb1⟩
  · have HALL := Lib.hid (show allS ts n [] = fullT ts by rw [← hn, fullT_all])
    have HFW := Lib.hid (fullT_len HG.out)
    clear hn hq
    go_enter Try.func44, Try.ntmps44
    go_wp2_with fail
    refine (scGood_any _ _ _ ts lo hi _ HN.out hlen hs hB _ HG.out).mono ?_
    rintro e w1 ⟨rfl, hb1⟩
    have hz1 := hb1.size
    have HB1 := Lib.hid hb1
    clear hb1
    go_wp2_with fail
    refine (scAll_any A n c ts lo hi HN.out HG.out n [] 0 0 none 0 0 _ (Nat.add_zero n) rfl (Nat.le_refl _) (stackB_nil _) (hs.below HB1.out hB) (by omega) Seg.nil_ (Nat.zero_le _)).mono ?_
    rw [HALL.out]
    rintro e w2 ⟨A2, n2, c2, vs, rfl, hl2, hr2, hb2⟩
    have hz2 := hb2.size
    have HR2 := Lib.hid hr2
    have HL2 := Lib.hid hl2
    have hn2b : n2 ≤ 960800 := by rw [← hl2]; exact HFW.out
    clear hl2 hr2
    have HB2 := Lib.hid (HB1.out.trans (hb2.mono hz1))
    clear hb2
    go_wp2
    go_loop [4, 13] (fun v i => ∃ k : Nat, k ≤ n2 ∧ i = .int .i64 k ∧ (∃ Ab nb cb, v = .slice Ab nb cb ∧ (bestF (fun xs => (xs.length : Int)) ((fullT ts).take k)).1.length = nb ∧ Own w2 w1.heap.size w2.heap.size Ab (bestF (fun xs => (xs.length : Int)) ((fullT ts).take k)).1)) (fun _ i => n2 - (intOf i).toNat)
    case atStart => exact ⟨0, Nat.zero_le _, rfl, none, 0, 0, rfl, rfl, Own.nil_⟩
    case round =>
      obtain ⟨k, hk, rfl, Ab, nb, cb, rfl, hlb, hob⟩ := hrel
      by_cases hlt : k < n2
      · obtain ⟨xs, hxs⟩ : ∃ xs, (fullT ts)[k]? = some xs := ⟨_, List.getElem?_eq_getElem (by rw [HL2.out]; exact hlt)⟩
        obtain ⟨g, B, d, rfl, _, hgl, hcx, hox⟩ := HR2.out.at_ hxs
        have HX := Lib.hid hxs
        have HT := Lib.hid (take_next hxs)
        have HSN := Lib.hid (bestF_snoc (fun xs => (xs.length : Int)) ((fullT ts).take k) xs)
        have hmy := bestF_many ((fullT ts).take k)
        obtain ⟨s, hs'⟩ : ∃ s, bestF (fun xs => (xs.length : Int)) ((fullT ts).take k) = s := ⟨_, rfl⟩
        rw [hs'] at hlb hob hmy HSN
        rw [hlb] at hmy
        obtain ⟨xl, hxl⟩ : ∃ xl, xs.length = xl := ⟨_, rfl⟩
        rw [hxl] at hcx
        have HXL := Lib.hid hxl
        have HLB := Lib.hid hlb
        have HOB := Lib.hid hob
        have HOX := Lib.hid hox
        have HMY := Lib.hid hmy
        clear hxs hs' hlb hob hmy hxl hox
        by_cases hgt : nb < xl
        · have HY := Lib.hid (show bestF (fun xs => (xs.length : Int)) ((fullT ts).take (k + 1)) = (xs, (xs.length : Int)) by rw [HT.out, HSN.out, bestT_yes (by rw [HMY.out, HXL.out]; omega)])
          go_wp2
          go_round
          case rel => exact ⟨k + 1, by omega, by go_num, B, xl, d, rfl, by rw [HY.out]; exact HXL.out, by rw [HY.out]; exact HOX.out⟩
          case measure => simp [intOf]; omega
        · have HY := Lib.hid (show bestF (fun xs => (xs.length : Int)) ((fullT ts).take (k + 1)) = s by rw [HT.out, HSN.out, bestT_no (by rw [HMY.out, HXL.out]; omega)])
          go_wp2
          go_round
          case rel => exact ⟨k + 1, by omega, by go_num, Ab, nb, cb, rfl, by rw [HY.out]; exact HLB.out, by rw [HY.out]; exact HOB.out⟩
          case measure => simp [intOf]; omega
      · obtain rfl : k = n2 := by omega
        have HE := Lib.hid (show (fullT ts).take k = fullT ts by rw [← HL2.out, List.take_length])
        rw [HE.out] at hlb hob
        have HLB := Lib.hid hlb
        clear hlb
        go_wp2
        go_ret2
        exact ⟨Ab, nb, cb, rfl, HLB.out, hob.more hz1 (Nat.le_refl _), HB2.out⟩

set_option maxRecDepth 100000 in
set_option maxHeartbeats 2000000 in
theorem spec_TallestStack (A : Option Addr) (n c : Nat) (ts : List (Int × Int × Int)) (lo hi : Nat) (w : World) (hn : ts.length = n) (hlen : n ≤ 1048576) (hs : Seg w lo hi A (flat3 ts)) (hB : hi ≤ w.heap.size) (q : Bool) (hq : goodT ts = q) :
    Calls Try.prog 46 #[.slice A n c] w (RetLIB q (if q = true then (bestF (fun xs => sumF (hT ts) xs) (fullT ts)).2 else 0) (someN q (bestF (fun xs => sumF (hT ts) xs) (fullT ts)).1) w) := by
  have HN := Lib.hid hn
  have HG := Lib.hid hq
  cases q
  · clear hn hq
    go_enter Try.func46, Try.ntmps46
    go_wp2_with fail
    refine (scGood_any _ _ _ ts lo hi _ HN.out hlen hs hB _ HG.out).mono ?_
    rintro e w1 ⟨rfl, hb1⟩
    go_wp2
    exact bodyPost_ret (v := .tuple #[.slice none 0 0, .int .i64 0, .bool false]) (by simp [results, Try.results46, go_sem]) rfl ⟨none, 0, 0, rfl, rfl, Own.nil_, hb1⟩
  · have HALL := Lib.hid (show allS ts n [] = fullT ts by rw [← hn, fullT_all])
    have HFW := Lib.hid (fullT_len HG.out)
    clear hn hq
    go_enter Try.func46, Try.ntmps46
    go_wp2_with fail
    refine (scGood_any _ _ _ ts lo hi _ HN.out hlen hs hB _ HG.out).mono ?_
    rintro e w1 ⟨rfl, hb1⟩
    have hz1 := hb1.size
    have HB1 := Lib.hid hb1
    clear hb1
    go_wp2_with fail
    refine (scAll_any A n c ts lo hi HN.out HG.out n [] 0 0 none 0 0 _ (Nat.add_zero n) rfl (Nat.le_refl _) (stackB_nil _) (hs.below HB1.out hB) (by omega) Seg.nil_ (Nat.zero_le _)).mono ?_
    rw [HALL.out]
    rintro e w2 ⟨A2, n2, c2, vs, rfl, hl2, hr2, hb2⟩
    have hz2 := hb2.size
    have HR2 := Lib.hid hr2
    have HL2 := Lib.hid hl2
    have hn2b : n2 ≤ 960800 := by rw [← hl2]; exact HFW.out
    clear hl2 hr2
    have HB2 := Lib.hid (HB1.out.trans (hb2.mono hz1))
    have HS2 := Lib.hid ((hs.below HB1.out hB).below hb2 (by omega))
    clear hb2
    go_wp2
    go_loop [5, 6, 16] (fun v hv i => ∃ k : Nat, k ≤ n2 ∧ i = .int .i64 k ∧ hv = .int .i64 (bestF (fun xs => sumF (hT ts) xs) ((fullT ts).take k)).2 ∧ (∃ Ab nb cb, v = .slice Ab nb cb ∧ (bestF (fun xs => sumF (hT ts) xs) ((fullT ts).take k)).1.length = nb ∧ Own w2 w1.heap.size w2.heap.size Ab (bestF (fun xs => sumF (hT ts) xs) ((fullT ts).take k)).1)) (fun _ _ i => n2 - (intOf i).toNat)
    case atStart => exact ⟨0, Nat.zero_le _, rfl, rfl, none, 0, 0, rfl, rfl, Own.nil_⟩
    case round =>
      obtain ⟨k, hk, rfl, rfl, Ab, nb, cb, rfl, hlb, hob⟩ := hrel
      by_cases hlt : k < n2
      · obtain ⟨xs, hxs⟩ : ∃ xs, (fullT ts)[k]? = some xs := ⟨_, List.getElem?_eq_getElem (by rw [HL2.out]; exact hlt)⟩
        obtain ⟨g, B, d, rfl, _, hgl, hcx, hox⟩ := HR2.out.at_ hxs
        have HX := Lib.hid hxs
        have HT := Lib.hid (take_next hxs)
        have HSN := Lib.hid (bestF_snoc (fun xs => sumF (hT ts) xs) ((fullT ts).take k) xs)
        obtain ⟨s, hs'⟩ : ∃ s, bestF (fun xs => sumF (hT ts) xs) ((fullT ts).take k) = s := ⟨_, rfl⟩
        rw [hs'] at hlb hob HSN
        rw [hs']
        obtain ⟨b, hbv⟩ : ∃ b, s.2 = b := ⟨_, rfl⟩
        rw [hbv]
        have HBV := Lib.hid hbv
        obtain ⟨xl, hxl⟩ : ∃ xl, xs.length = xl := ⟨_, rfl⟩
        rw [hxl] at hcx
        have HXL := Lib.hid hxl
        have HXS := Lib.hid (fullT_stack HG.out (List.mem_of_getElem? hxs))
        obtain ⟨sz, hsz⟩ : ∃ sz, sumF (hT ts) xs = sz := ⟨_, rfl⟩
        have HSZ := Lib.hid hsz
        have HLB := Lib.hid hlb
        have HOB := Lib.hid hob
        have HOX := Lib.hid hox
        clear hxs hs' hlb hob hbv hxl hox hsz
        go_wp2_with fail
        refine (scHigh_any A _ n c _ _ ts xs lo hi _ _ _ HN.out HG.out HXL.out HXS.out HS2.out HOX.out.seg).mono ?_
        rw [HSZ.out]
        rintro e w3 ⟨rfl, rfl⟩
        by_cases hgt : b < sz
        · have HY := Lib.hid (show bestF (fun xs => sumF (hT ts) xs) ((fullT ts).take (k + 1)) = (xs, sz) by rw [HT.out, HSN.out, bestT_yes (by rw [HBV.out, HSZ.out]; exact hgt), HSZ.out])
          have hd : decide (b < sz) = true := decide_eq_true hgt
          go_wp2
          go_round
          case rel => exact ⟨k + 1, by omega, by go_num, by rw [HY.out], B, xl, d, rfl, by rw [HY.out]; exact HXL.out, by rw [HY.out]; exact HOX.out⟩
          case measure => simp [intOf]; omega
        · have HY := Lib.hid (show bestF (fun xs => sumF (hT ts) xs) ((fullT ts).take (k + 1)) = s by rw [HT.out, HSN.out, bestT_no (by rw [HBV.out, HSZ.out]; exact hgt)])
          have hd : decide (b < sz) = false := decide_eq_false hgt
          go_wp2
          go_round
          case rel => exact ⟨k + 1, by omega, by go_num, by rw [HY.out, HBV.out], Ab, nb, cb, rfl, by rw [HY.out]; exact HLB.out, by rw [HY.out]; exact HOB.out⟩
          case measure => simp [intOf]; omega
      · obtain rfl : k = n2 := by omega
        have HE := Lib.hid (show (fullT ts).take k = fullT ts by rw [← HL2.out, List.take_length])
        rw [HE.out] at hlb hob
        rw [HE.out]
        have HLB := Lib.hid hlb
        clear hlb
        go_wp2
        exact bodyPost_ret (v := .tuple #[.slice Ab nb cb, .int .i64 (bestF (fun xs => sumF (hT ts) xs) (fullT ts)).2, .bool true]) (by simp [results, Try.results46, go_sem]) rfl ⟨Ab, nb, cb, rfl, HLB.out, hob.more hz1 (Nat.le_refl _), HB2.out⟩

set_option maxRecDepth 100000 in
set_option maxHeartbeats 2000000 in
theorem scOrders_any (A : Option Addr) (n c : Nat) (ts : List (Int × Int × Int)) (lo hi : Nat) (w : World) (hn : ts.length = n) (hg : goodT ts = true) (hs : Seg w lo hi A (flat3 ts)) (hB : hi ≤ w.heap.size) :
    Calls Try.prog 70 #[.slice A n c] w (RetRs (ordT (ts.length : Nat) (fullT ts)) w) := by
  have HN := Lib.hid hn
  have HG := Lib.hid hg
  have HALL := Lib.hid (show allS ts n [] = fullT ts by rw [← hn, fullT_all])
  have HFW := Lib.hid (fullT_len HG.out)
  obtain ⟨j0, hj0, hy0, hy1, hy2⟩ := info_parts rowsT_info
  clear hn hg
  go_enter Try.func70, Try.ntmps70
  go_wp2_with fail
  refine (scAll_any A n c ts lo hi HN.out HG.out n [] 0 0 none 0 0 _ (Nat.add_zero n) rfl (Nat.le_refl _) (stackB_nil _) hs hB Seg.nil_ (Nat.zero_le _)).mono ?_
  rw [HALL.out]
  rintro e w2 ⟨A2, n2, c2, vs, rfl, hl2, hr2, hb2⟩
  have hz2 := hb2.size
  have HR2 := Lib.hid hr2
  have HL2 := Lib.hid hl2
  have hn2b : n2 ≤ 960800 := by rw [← hl2]; exact HFW.out
  clear hl2 hr2
  have HB2 := Lib.hid hb2
  clear hb2
  go_wp2
  go_loopw [3, 9] (fun v i wr => ∃ k : Nat, k ≤ n2 ∧ i = .int .i64 k ∧ Below w2.heap.size w2 wr ∧ (∀ b, v.ownBlock = some b → w2.heap.size ≤ b) ∧ ∃ us, Rws wr w.heap.size v (ordT (n : Int) ((fullT ts).take k)) us) (fun _ i _ => n2 - (intOf i).toNat)
  case atStart => exact ⟨0, Nat.zero_le _, rfl, Below.refl _ _, fun b hb => by (cases hb), [], Rws.nil_ _ _⟩
  case round =>
    obtain ⟨k, hk, rfl, hb, hfar, us, hru⟩ := hrel
    have hzr := hb.size
    have HBR := Lib.hid hb
    by_cases hlt : k < n2
    · obtain ⟨xs, hxs⟩ : ∃ xs, (fullT ts)[k]? = some xs := ⟨_, List.getElem?_eq_getElem (by rw [HL2.out]; exact hlt)⟩
      obtain ⟨g, B, d, rfl, _, hgl, hcx0, hox0⟩ := HR2.out.at_ hxs
      have hcx := (hb.cell (p := ⟨g, k, none⟩) hgl).trans hcx0
      have hox := hox0.below hb (Nat.le_refl _)
      have HT := Lib.hid (take_next hxs)
      have HSN := Lib.hid (ordT_snoc (n : Int) ((fullT ts).take k) xs)
      obtain ⟨V, hV⟩ : ∃ V, ordT (n : Int) ((fullT ts).take k) = V := ⟨_, rfl⟩
      rw [hV] at hru HSN
      obtain ⟨D, dd, rfl⟩ := hru.form
      obtain ⟨nv, hnv⟩ : ∃ nv, V.length = nv := ⟨_, rfl⟩
      have hnvb : nv ≤ 960800 := by rw [← hnv, ← hV]; refine Nat.le_trans (List.length_filter_le _ _) (Nat.le_trans (by rw [List.length_take]; exact Nat.min_le_right _ _) HFW.out)
      rw [hnv] at hru ⊢
      rw [hnv] at hfar
      have HNV := Lib.hid hnv
      have HRU := Lib.hid hru
      have HFAR := Lib.hid hfar
      have HOX := Lib.hid hox
      obtain ⟨xl, hxl⟩ : ∃ xl, xs.length = xl := ⟨_, rfl⟩
      rw [hxl] at hcx
      have HXL := Lib.hid hxl
      clear hxs hcx0 hox0 hV hnv hru hfar hox hxl hb
      by_cases he : (xl : Int) = (n : Int)
      · have HY := Lib.hid (show ordT (n : Int) ((fullT ts).take (k + 1)) = V ++ [xs] by rw [HT.out, HSN.out, if_pos (by rw [HXL.out]; exact he)])
        have hee : ((xl : Int) == (n : Int)) = true := by rw [beq_iff_eq]; exact he
        have hbb := (Below.refl wr.heap.size wr).alloc (Nat.le_refl _) (.cells #[.slice B xl d] 29)
        have HR1 := Lib.hid (HRU.out.below hbb)
        have H1 := Lib.hid (rws_one (w := wr) (base := w.heap.size) (c := d) (by omega) HXL.out (HOX.out.more (Nat.le_refl _) hzr))
        have HO1 := Lib.hid (HOX.out.below hbb (by omega))
        have HB1' := Lib.hid (HBR.out.alloc hzr (.cells #[.slice B xl d] 29))
        have HRW := Lib.hid (show Rows1 (wr.alloc (.cells #[.slice B xl d] 29)) w.heap.size (Value.slice D nv dd).ownBlock [xs] [.slice B xl d] from ⟨rfl, fun j ys hj => by (have hj0 : j = 0 := (by have := (List.getElem?_eq_some_iff.1 hj).1; simp at this; exact this); subst hj0; obtain rfl : xs = ys := (by simpa using hj); exact ⟨B, d, by rw [HXL.out]; rfl, HO1.out.more (Nat.le_refl _) (by simp; omega), fun hx g' hB e => by (have h1 := (HO1.out.lt_ hx hB).2; have h2 := HFAR.out g' e; omega)⟩)⟩)
        clear he hbb
        go_wp2_with (at_builtin; refine wpList_append_rows _ rfl _ _ 44 rfl w.heap.size 29 j0 Try.underlying44 hj0 hy0 hy1 hy2 _ _ _ rfl (by have h := HR1.out.1; rw [HNV.out] at h; exact h) _ _ 1 _ rfl H1.out.1 (by intro u hu; simp at hu; subst hu; rfl) (by omega) (by simp; omega) ?_; intro v8 w8 hown8 hgr8 hloc8; have HR8 := Lib.hid (HR1.out.app HRW.out (by rw [HNV.out]; exact hown8) hgr8 hloc8); have HB8 := Lib.hid (HB1'.out.grown hgr8 (by simp; omega) (fun g' hg' => HFAR.out g' hg')); have HF8 := Lib.hid (show ∀ b, v8.ownBlock = some b → w2.heap.size ≤ b from fun b hb => by (rcases hloc8 with h | h; exact HFAR.out b (h ▸ hb); rw [h] at hb; injection hb with hb; simp at hb; omega)); clear hown8 hgr8 hloc8)
        go_roundw
        case rel => exact ⟨k + 1, by omega, by go_num, HB8.out, HF8.out, _, by rw [HY.out]; exact HR8.out⟩
        case measure => simp [intOf]; omega
      · have HY := Lib.hid (show ordT (n : Int) ((fullT ts).take (k + 1)) = V by rw [HT.out, HSN.out, if_neg (by rw [HXL.out]; exact he)])
        have hee : ((xl : Int) == (n : Int)) = false := by rw [beq_eq_false_iff_ne]; exact he
        clear he
        go_wp2
        go_roundw
        case rel => exact ⟨k + 1, by omega, by go_num, HBR.out, HFAR.out, us, by rw [HY.out]; exact HRU.out⟩
        case measure => simp [intOf]; omega
    · obtain rfl : k = n2 := by omega
      have HE := Lib.hid (show ordT (n : Int) ((fullT ts).take k) = ordT (ts.length : Nat) (fullT ts) by rw [← HL2.out, List.take_length, HN.out])
      rw [HE.out] at hru
      obtain ⟨D, dd, rfl⟩ := hru.form
      have HRU := Lib.hid hru
      clear hru hb hfar
      go_wp2
      go_ret
      exact ⟨D, _, dd, us, rfl, rfl, HRU.out, HB2.out.trans (HBR.out.mono hz2)⟩

set_option maxRecDepth 100000 in
set_option maxHeartbeats 2000000 in
theorem spec_CountSafeOrders (A : Option Addr) (n c : Nat) (ts : List (Int × Int × Int)) (lo hi : Nat) (w : World) (hn : ts.length = n) (hlen : n ≤ 1048576) (hs : Seg w lo hi A (flat3 ts)) (hB : hi ≤ w.heap.size) (q : Bool) (hq : goodT ts = q) :
    Calls Try.prog 42 #[.slice A n c] w (RetI (if q = true then (cntT (ts.length : Nat) (fullT ts) : Nat) else 0) q w) := by
  have HN := Lib.hid hn
  have HG := Lib.hid hq
  cases q
  · clear hn hq
    go_enter Try.func42, Try.ntmps42
    go_wp2_with fail
    refine (scGood_any _ _ _ ts lo hi _ HN.out hlen hs hB _ HG.out).mono ?_
    rintro e w1 ⟨rfl, hb1⟩
    go_wp2
    go_ret2
    exact ⟨rfl, hb1⟩
  · clear hn hq
    go_enter Try.func42, Try.ntmps42
    go_wp2_with fail
    refine (scGood_any _ _ _ ts lo hi _ HN.out hlen hs hB _ HG.out).mono ?_
    rintro e w1 ⟨rfl, hb1⟩
    have hz1 := hb1.size
    have HB1 := Lib.hid hb1
    clear hb1
    go_wp2_with fail
    refine (scOrders_any A n c ts lo hi _ HN.out HG.out (hs.below HB1.out hB) (by omega)).mono ?_
    rintro e w2 ⟨A2, n2, c2, vs, rfl, hl2, hr2, hb2⟩
    have HL2 := Lib.hid (show (n2 : Int) = (cntT (ts.length : Nat) (fullT ts) : Nat) by rw [← hl2, ordT_len])
    clear hl2 hr2
    go_wp2
    go_ret2
    exact ⟨by rw [HL2.out]; rfl, HB1.out.trans (hb2.mono hz1)⟩

theorem order_casesS {ts : List (Int × Int × Int)} {q : Bool} (h : safeQ ts = q) :
    (q = false ∧ goodT ts = false) ∨ (q = false ∧ goodT ts = true ∧ ordT (ts.length : Nat) (fullT ts) = []) ∨ (q = true ∧ goodT ts = true ∧ ∃ r, ordT (ts.length : Nat) (fullT ts) = firstS ts :: r) := by
  rw [← h]; unfold safeQ
  cases hg : goodT ts
  · exact .inl ⟨rfl, rfl⟩
  · refine .inr ?_
    rcases best_order hg with ⟨h1, h2⟩ | ⟨x, r, h1, h2⟩
    · exact .inl ⟨by rw [h1]; rfl, rfl, List.eq_nil_of_length_eq_zero (by rw [ordT_len]; exact h1)⟩
    · have hc : 0 < cntT (ts.length : Nat) (fullT ts) := by rw [← ordT_len, h1]; simp
      exact .inr ⟨by rw [decide_eq_true hc]; rfl, rfl, r, by rw [h1, firstS, h2]⟩

set_option maxRecDepth 100000 in
set_option maxHeartbeats 2000000 in
theorem spec_SafeOrder (A : Option Addr) (n c : Nat) (ts : List (Int × Int × Int)) (lo hi : Nat) (w : World) (hn : ts.length = n) (hlen : n ≤ 1048576) (hs : Seg w lo hi A (flat3 ts)) (hB : hi ≤ w.heap.size) (q : Bool) (hq : safeQ ts = q) :
    Calls Try.prog 48 #[.slice A n c] w (RetL q (someN q (firstS ts)) w) := by
  have HN := Lib.hid hn
  rcases order_casesS hq with ⟨rfl, h1⟩ | ⟨rfl, h1, h2⟩ | ⟨rfl, h1, r, h2⟩
  · have HG := Lib.hid h1
    clear hn hq h1
    go_enter Try.func48, Try.ntmps48
    go_wp2_with fail
    refine (scGood_any _ _ _ ts lo hi _ HN.out hlen hs hB _ HG.out).mono ?_
    rintro e w1 ⟨rfl, hb1⟩
    go_wp2
    go_ret2
    exact ⟨none, 0, 0, rfl, rfl, Own.nil_, hb1⟩
  · have HG := Lib.hid h1
    have HO := Lib.hid h2
    clear hn hq h1 h2
    go_enter Try.func48, Try.ntmps48
    go_wp2_with fail
    refine (scGood_any _ _ _ ts lo hi _ HN.out hlen hs hB _ HG.out).mono ?_
    rintro e w1 ⟨rfl, hb1⟩
    have hz1 := hb1.size
    have HB1 := Lib.hid hb1
    clear hb1
    go_wp2_with fail
    refine (scOrders_any A n c ts lo hi _ HN.out HG.out (hs.below HB1.out hB) (by omega)).mono ?_
    rintro e w2 ⟨A2, n2, c2, vs, rfl, hl2, hr2, hb2⟩
    obtain rfl : n2 = 0 := by rw [← hl2, HO.out]; rfl
    clear hl2 hr2
    go_wp2
    go_ret2
    exact ⟨none, 0, 0, rfl, rfl, Own.nil_, HB1.out.trans (hb2.mono hz1)⟩
  · have HG := Lib.hid h1
    have HO := Lib.hid h2
    clear hn hq h1 h2
    go_enter Try.func48, Try.ntmps48
    go_wp2_with fail
    refine (scGood_any _ _ _ ts lo hi _ HN.out hlen hs hB _ HG.out).mono ?_
    rintro e w1 ⟨rfl, hb1⟩
    have hz1 := hb1.size
    have HB1 := Lib.hid hb1
    clear hb1
    go_wp2_with fail
    refine (scOrders_any A n c ts lo hi _ HN.out HG.out (hs.below HB1.out hB) (by omega)).mono ?_
    rintro e w2 ⟨A2, n2, c2, vs, rfl, hl2, hr2, hb2⟩
    obtain ⟨p, rfl⟩ : ∃ p, n2 = p + 1 := ⟨r.length, by rw [← hl2, HO.out]; rfl⟩
    obtain ⟨g, B, d, rfl, _, hgl, hcx, hox⟩ := hr2.at_ (k := 0) (xs := firstS ts) (by rw [HO.out]; rfl)
    obtain ⟨xl, hxl⟩ : ∃ xl, (firstS ts).length = xl := ⟨_, rfl⟩
    rw [hxl] at hcx
    have HXL := Lib.hid hxl
    have hne : (((p + 1 : Nat) : Int) == 0) = false := by rw [beq_eq_false_iff_ne]; omega
    have hne2 : ((p : Int) + 1 == 0) = false := by rw [beq_eq_false_iff_ne]; omega
    clear hl2 hr2 hxl
    go_wp2
    go_ret2
    exact ⟨B, xl, d, rfl, HXL.out, hox.more hz1 (Nat.le_refl _), HB1.out.trans (hb2.mono hz1)⟩
end Go.Proofs.Ytcfnjodcnejnkaa

/-
  The given program's counts of safe stacks, and first safe stacks.
  Conditions: the list has at most 1048576 things.
-/
import Derived.Test.YtbgcacgcfldjnaaSafeM
namespace Go.Proofs.Ytbgcacgcfldjnaa
set_option linter.unusedVariables false
open Go.RowKit

theorem ask_casesS {ts : List (Int × Int × Int)} {many : Int} {q : Bool} {n : Nat} (hn : ts.length = n) (h : askC ts many = q) :
    (q = false ∧ goodT ts = false) ∨ (goodT ts = true ∧ inB many 0 (n : Int) = q) := by
  rw [← h, ← hn]; unfold askC
  cases goodT ts
  · exact .inl ⟨rfl, rfl⟩
  · exact .inr ⟨rfl, by rw [Bool.true_and]⟩

set_option maxRecDepth 100000 in
set_option maxHeartbeats 2000000 in
theorem spec_TallestStack (A : Option Addr) (n c : Nat) (ts : List (Int × Int × Int)) (lo hi : Nat) (w : World) (hn : ts.length = n) (hlen : n ≤ 1048576) (hs : Seg w lo hi A (flat3 ts)) (hB : hi ≤ w.heap.size) (q : Bool) (hq : goodT ts = q) :
    Calls Try.prog 12 #[.slice A n c] w (RetLIB q (if q = true then (bestF (fun xs => sumF (hT ts) xs) (fullT ts)).2 else 0) (someN q (bestF (fun xs => sumF (hT ts) xs) (fullT ts)).1) w) := by
  have HN := Lib.hid hn
  have HG := Lib.hid hq
  cases q
  · clear hn hq
    go_enter Try.func12, Try.ntmps12
    go_wp2_with fail
    refine (scGood_any _ _ _ ts lo hi _ HN.out hlen hs hB _ HG.out).mono ?_
    rintro e w1 ⟨rfl, hb1⟩
    go_wp2
    exact bodyPost_ret (v := .tuple #[.slice none 0 0, .int .i64 0, .bool false]) (by simp [results, Try.results12, go_sem]) rfl ⟨none, 0, 0, rfl, rfl, Own.nil_, hb1⟩
  · have HALL := Lib.hid (show allS ts n [] = fullT ts by rw [← hn, fullT_all])
    have HFW := Lib.hid (fullT_len HG.out)
    clear hn hq
    go_enter Try.func12, Try.ntmps12
    go_wp2_with fail
    refine (scGood_any _ _ _ ts lo hi _ HN.out hlen hs hB _ HG.out).mono ?_
    rintro e w1 ⟨rfl, hb1⟩
    have hz1 := hb1.size
    have HB1 := Lib.hid hb1
    clear hb1
    go_wp2_with fail
    refine (scAll_any A n c ts lo hi HN.out HG.out n [] 0 0 none 0 0 _ (Nat.add_zero n) rfl (Nat.le_refl _) (stackB_nil _) (hs.below HB1.out hB) (by omega) Seg.nil_ (Nat.zero_le _)).mono ?_
    rw [HALL.out]
    rintro e w2 ⟨A2, n2, c2, vs, rfl, hl2, hr2, hb2⟩
    have hz2 := hb2.size
    have HR2 := Lib.hid hr2
    have HL2 := Lib.hid hl2
    have hn2b : n2 ≤ 960800 := by rw [← hl2]; exact HFW.out
    clear hl2 hr2
    have HB2 := Lib.hid (HB1.out.trans (hb2.mono hz1))
    have HS2 := Lib.hid ((hs.below HB1.out hB).below hb2 (by omega))
    clear hb2
    go_wp2
    go_loop [5, 6, 16] (fun v hv i => ∃ k : Nat, k ≤ n2 ∧ i = .int .i64 k ∧ hv = .int .i64 (bestF (fun xs => sumF (hT ts) xs) ((fullT ts).take k)).2 ∧ (∃ Ab nb cb, v = .slice Ab nb cb ∧ (bestF (fun xs => sumF (hT ts) xs) ((fullT ts).take k)).1.length = nb ∧ Own w2 w1.heap.size w2.heap.size Ab (bestF (fun xs => sumF (hT ts) xs) ((fullT ts).take k)).1)) (fun _ _ i => n2 - (intOf i).toNat)
    case atStart => exact ⟨0, Nat.zero_le _, rfl, rfl, none, 0, 0, rfl, rfl, Own.nil_⟩
    case round =>
      obtain ⟨k, hk, rfl, rfl, Ab, nb, cb, rfl, hlb, hob⟩ := hrel
      by_cases hlt : k < n2
      · obtain ⟨xs, hxs⟩ : ∃ xs, (fullT ts)[k]? = some xs := ⟨_, List.getElem?_eq_getElem (by rw [HL2.out]; exact hlt)⟩
        obtain ⟨g, B, d, rfl, _, hgl, hcx, hox⟩ := HR2.out.at_ hxs
        have HX := Lib.hid hxs
        have HT := Lib.hid (take_next hxs)
        have HSN := Lib.hid (bestF_snoc (fun xs => sumF (hT ts) xs) ((fullT ts).take k) xs)
        obtain ⟨s, hs'⟩ : ∃ s, bestF (fun xs => sumF (hT ts) xs) ((fullT ts).take k) = s := ⟨_, rfl⟩
        rw [hs'] at hlb hob HSN
        rw [hs']
        obtain ⟨b, hbv⟩ : ∃ b, s.2 = b := ⟨_, rfl⟩
        rw [hbv]
        have HBV := Lib.hid hbv
        obtain ⟨xl, hxl⟩ : ∃ xl, xs.length = xl := ⟨_, rfl⟩
        rw [hxl] at hcx
        have HXL := Lib.hid hxl
        have HXS := Lib.hid (fullT_stack HG.out (List.mem_of_getElem? hxs))
        obtain ⟨sz, hsz⟩ : ∃ sz, sumF (hT ts) xs = sz := ⟨_, rfl⟩
        have HSZ := Lib.hid hsz
        have HLB := Lib.hid hlb
        have HOB := Lib.hid hob
        have HOX := Lib.hid hox
        clear hxs hs' hlb hob hbv hxl hox hsz
        go_wp2_with fail
        refine (scHigh_any A _ n c _ _ ts xs lo hi _ _ _ HN.out HG.out HXL.out HXS.out HS2.out HOX.out.seg).mono ?_
        rw [HSZ.out]
        rintro e w3 ⟨rfl, rfl⟩
        by_cases hgt : b < sz
        · have HY := Lib.hid (show bestF (fun xs => sumF (hT ts) xs) ((fullT ts).take (k + 1)) = (xs, sz) by rw [HT.out, HSN.out, bestT_yes (by rw [HBV.out, HSZ.out]; exact hgt), HSZ.out])
          have hd : decide (b < sz) = true := decide_eq_true hgt
          go_wp2
          go_round
          case rel => exact ⟨k + 1, by omega, by go_num, by rw [HY.out], B, xl, d, rfl, by rw [HY.out]; exact HXL.out, by rw [HY.out]; exact HOX.out⟩
          case measure => simp [intOf]; omega
        · have HY := Lib.hid (show bestF (fun xs => sumF (hT ts) xs) ((fullT ts).take (k + 1)) = s by rw [HT.out, HSN.out, bestT_no (by rw [HBV.out, HSZ.out]; exact hgt)])
          have hd : decide (b < sz) = false := decide_eq_false hgt
          go_wp2
          go_round
          case rel => exact ⟨k + 1, by omega, by go_num, by rw [HY.out, HBV.out], Ab, nb, cb, rfl, by rw [HY.out]; exact HLB.out, by rw [HY.out]; exact HOB.out⟩
          case measure => simp [intOf]; omega
      · obtain rfl : k = n2 := by omega
        have HE := Lib.hid (show (fullT ts).take k = fullT ts by rw [← HL2.out, List.take_length])
        rw [HE.out] at hlb hob
        rw [HE.out]
        have HLB := Lib.hid hlb
        clear hlb
        go_wp2
        exact bodyPost_ret (v := .tuple #[.slice Ab nb cb, .int .i64 (bestF (fun xs => sumF (hT ts) xs) (fullT ts)).2, .bool true]) (by simp [results, Try.results12, go_sem]) rfl ⟨Ab, nb, cb, rfl, HLB.out, hob.more hz1 (Nat.le_refl _), HB2.out⟩

theorem order_casesS {ts : List (Int × Int × Int)} {q : Bool} (h : safeQ ts = q) :
    (q = false ∧ goodT ts = false) ∨ (q = false ∧ goodT ts = true ∧ ordT (ts.length : Nat) (fullT ts) = []) ∨ (q = true ∧ goodT ts = true ∧ ∃ r, ordT (ts.length : Nat) (fullT ts) = firstS ts :: r) := by
  rw [← h]; unfold safeQ
  cases hg : goodT ts
  · exact .inl ⟨rfl, rfl⟩
  · refine .inr ?_
    rcases best_order hg with ⟨h1, h2⟩ | ⟨x, r, h1, h2⟩
    · exact .inl ⟨by rw [h1]; rfl, rfl, List.eq_nil_of_length_eq_zero (by rw [ordT_len]; exact h1)⟩
    · have hc : 0 < cntT (ts.length : Nat) (fullT ts) := by rw [← ordT_len, h1]; simp
      exact .inr ⟨by rw [decide_eq_true hc]; rfl, rfl, r, by rw [h1, firstS, h2]⟩

end Go.Proofs.Ytbgcacgcfldjnaa

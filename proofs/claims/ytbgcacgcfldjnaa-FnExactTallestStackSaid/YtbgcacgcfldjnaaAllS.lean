/-
  The given program's list of all safe stacks that go on from one, in their order.
  Conditions: there are things, and the numbers are a stack of them.
-/
import Derived.Test.YtbgcacgcfldjnaaSafe
import Derived.Test.YtbgcacgcfldjnaaRws
import Derived.Test.YtbgcacgcfldjnaaHas
namespace Go.Proofs.Ytbgcacgcfldjnaa
set_option linter.unusedVariables false
open Go.RowKit

theorem rowsT_info : (Try.prog.info? 23).map (fun i => (i.zero, i.size, i.bytes)) = some (some (.slice none 0 0), 1, 24) := by kernel_rfl

/-- All safe stacks that go on from one. -/
def allS (ts : List (Int × Int × Int)) (f : Nat) (beg : List Int) : List (List Int) := if safeB ts beg = true then visF ts f (capF ts 7000 beg) beg else []
theorem allS_yes {ts : List (Int × Int × Int)} {f : Nat} {beg : List Int} (h : safeB ts beg = true) : allS ts f beg = visF ts f (capF ts 7000 beg) beg := if_pos h
theorem allS_no {ts : List (Int × Int × Int)} {f : Nat} {beg : List Int} (h : safeB ts beg = false) : allS ts f beg = [] := if_neg (by simp [h])

/-- One thing more: what it adds. -/
theorem kids_next {ts : List (Int × Int × Int)} (hg : goodT ts = true) {f j : Nat} {beg : List Int} (hc : canT ts.length beg (j : Int) = true) :
    kidsF ts f (capF ts 7000 beg) beg (j + 1) = kidsF ts f (capF ts 7000 beg) beg j ++ allS ts (f - 1) (beg ++ [(j : Int)]) := by
  have hs := safe_snoc hg beg (j : Int)
  have hok : okT ts (capF ts 7000 beg) beg j = safeB ts (beg ++ [(j : Int)]) := by unfold okT; rw [hs, hc, Bool.and_true]
  cases h : safeB ts (beg ++ [(j : Int)])
  · rw [kidsF_no (by rw [hok, h]), allS_no h, List.append_nil]
  · rw [kidsF_yes (by rw [hok, h]), allS_yes h, capF_snoc]
theorem kids_same {ts : List (Int × Int × Int)} {f j : Nat} {c : Int} {beg : List Int} (hc : canT ts.length beg (j : Int) = false) : kidsF ts f c beg (j + 1) = kidsF ts f c beg j :=
  kidsF_no (by unfold okT; rw [hc, Bool.and_false])

/-- Lists of numbers are answered, in new memory. -/
def RetRs (xss : List (List Int)) (w : World) (e : Ending) (w' : World) : Prop :=
  ∃ A n c vs, e = .returned (.slice A n c) ∧ xss.length = n ∧ Rws w' w.heap.size (.slice A n c) xss vs ∧ Below w.heap.size w w'

theorem rws_one {w : World} {base m c : Nat} {B : Option Addr} {xs : List Int} (hb : base ≤ w.heap.size) (hm : xs.length = m) (h : Own w base w.heap.size B xs) :
    Rws (w.alloc (.cells #[.slice B m c] 23)) base (.slice (some ⟨w.heap.size, 0, none⟩) 1 1) [xs] [.slice B m c] := by
  have hbb := (Below.refl w.heap.size w).alloc (Nat.le_refl _) (.cells #[.slice B m c] 23)
  refine ⟨⟨rfl, .inr ⟨w.heap.size, 1, _, rfl, hb, new_at w _ rfl, Nat.le_refl _, by unfold maxLen; omega, rfl, rfl⟩⟩, rfl, fun j ys hj => ?_⟩
  have hj0 : j = 0 := by
    have := (List.getElem?_eq_some_iff.1 hj).1
    simp at this
    exact this
  subst hj0
  obtain rfl : xs = ys := by simpa using hj
  refine ⟨B, c, by rw [hm]; rfl, (h.below hbb (Nat.le_refl _)).more (Nat.le_refl _) (by simp), fun hx g hB e => ?_⟩
  have h1 := (h.lt_ hx hB).2
  injection e with e
  have h2 : w.heap.size = g := e
  omega

set_option maxRecDepth 100000 in
set_option maxHeartbeats 4000000 in
theorem scAll_any (A : Option Addr) (n c : Nat) (ts : List (Int × Int × Int)) (lo hi : Nat) (hn : ts.length = n) (hg : goodT ts = true) (f : Nat) :
    ∀ (beg : List Int) (m c2 : Nat) (A2 : Option Addr) (l1 h1 : Nat) (w : World), f + m = n → beg.length = m → m ≤ c2 → stackB ts.length beg = true → Seg w lo hi A (flat3 ts) → hi ≤ w.heap.size → Seg w l1 h1 A2 beg → h1 ≤ w.heap.size →
      Calls Try.prog 24 #[.slice A n c, .slice A2 m c2] w (RetRs (allS ts f beg) w) := by
  induction f using Nat.strongRecOn with
  | _ f ih =>
    intro beg m c2 A2 l1 h1 w hf hm hc2 hst hs hB hs2 hB2
    obtain ⟨i0, hi0, hz0, hz1, hz2⟩ := info_parts int_info
    obtain ⟨j0, hj0, hy0, hy1, hy2⟩ := info_parts rowsT_info
    have hn7 : n ≤ 7 := by rw [← hn]; exact (goodT_at hg).2.1
    have hm7 : m ≤ 7 := by omega
    have IH := Lib.hid ih
    have HN := Lib.hid hn
    have HG := Lib.hid hg
    have HM := Lib.hid hm
    have HST := Lib.hid hst
    have HF := Lib.hid hf
    cases hsafe : safeB ts beg
    · have HS := Lib.hid hsafe
      clear ih hn hg hm hst hf hsafe
      go_enter Try.func24, Try.ntmps24
      go_wp2_with fail
      refine (scSafe_any A A2 n c m c2 ts beg lo hi l1 h1 _ HN.out HM.out hc2 hs hB hs2 hB2 HG.out HST.out _ HS.out).mono ?_
      rintro e w1 ⟨rfl, hb1⟩
      go_wp2
      go_ret
      rw [allS_no HS.out]
      exact ⟨none, 0, 0, [], rfl, rfl, Rws.nil_ _ _, hb1⟩
    · have HS := Lib.hid hsafe
      have HALL := Lib.hid (show allS ts f beg = beg :: kidsF ts f (capF ts 7000 beg) beg n by rw [allS_yes hsafe, visF_eq hst (by rw [hm, hn]; exact hf), hn])
      have HFEW := Lib.hid (show ∀ j, j ≤ n → (kidsF ts f (capF ts 7000 beg) beg j).length ≤ 960800 from fun j hj => kids_few (by omega) (by omega) hst (by rw [hm, hn]; exact hf) (by rw [hn]; exact hj))
      obtain ⟨c0, hc0⟩ : ∃ c0, capF ts 7000 beg = c0 := ⟨_, rfl⟩
      have HC0 := Lib.hid hc0
      rw [hc0] at HALL HFEW
      clear ih hn hg hm hst hf hsafe hc0
      go_enter Try.func24, Try.ntmps24
      go_wp2_with fail
      refine (scSafe_any A A2 n c m c2 ts beg lo hi l1 h1 _ HN.out HM.out hc2 hs hB hs2 hB2 HG.out HST.out _ HS.out).mono ?_
      rintro e w1 ⟨rfl, hb1⟩
      have hzw1 := hb1.size
      have HB1 := Lib.hid hb1
      go_wp2_with fail
      refine (l1Own_any A2 m c2 beg l1 h1 _ HM.out (by omega) (hs2.below HB1.out hB2) (by omega)).mono ?_
      rintro e w2 ⟨A4, c4, rfl, hown2, hb2⟩
      have hzw2 := hb2.size
      have HB2 := Lib.hid (HB1.out.trans (hb2.mono hzw1))
      have HR2 := Lib.hid (rws_one (w := w2) (base := w.heap.size) (c := c4) (by omega) HM.out ((ownsRow_own (w := w2) (ys := beg) (by rw [HM.out]; exact hown2)).2.more hzw1 (Nat.le_refl _)))
      have HB3 := Lib.hid (HB2.out.alloc (by omega) (.cells #[.slice A4 m c4] 23))
      clear hb1 hb2 hown2
      go_wp2
      go_loopw [5, 16] (fun v i wr => ∃ j : Nat, j ≤ n ∧ i = .int .i64 j ∧ Below w.heap.size w wr ∧ ∃ vs, Rws wr w.heap.size v (beg :: kidsF ts f c0 beg j) vs) (fun _ i _ => n - (intOf i).toNat)
      case atStart => exact ⟨0, Nat.zero_le _, rfl, HB3.out, _, HR2.out⟩
      case round =>
        obtain ⟨j, hj, rfl, hb, vs, hr⟩ := hrel
        have hsz := hb.size
        have HB := Lib.hid hb
        obtain ⟨B, d, rfl⟩ := hr.form
        obtain ⟨nv, hnv⟩ : ∃ nv, (beg :: kidsF ts f c0 beg j).length = nv := ⟨_, rfl⟩
        rw [hnv] at hr ⊢
        have HNV := Lib.hid hnv
        have HR := Lib.hid hr
        clear hnv
        by_cases hlt : j < n
        · have HSB := Lib.hid (hs2.below hb hB2)
          have HSA := Lib.hid (hs.below hb hB)
          have hf1 := HFEW.out j (by omega)
          have hf2 := HFEW.out (j + 1) (by omega)
          cases hd : decide ((j : Int) ∈ beg)
          · have hcan : canT ts.length beg (j : Int) = true := canT_true.2 ⟨by rw [HN.out]; omega, of_decide_eq_false hd⟩
            have hf0 : 1 ≤ f := can_fuel HST.out (by rw [HM.out, HN.out]; exact HF.out) hcan
            have HNX := Lib.hid (show kidsF ts f c0 beg (j + 1) = kidsF ts f c0 beg j ++ allS ts (f - 1) (beg ++ [(j : Int)]) by rw [← HC0.out]; exact kids_next HG.out hcan)
            have HSN := Lib.hid (stackB_snoc HST.out hcan)
            have HD := Lib.hid hd
            obtain ⟨yss, hyss⟩ : ∃ yss, allS ts (f - 1) (beg ++ [(j : Int)]) = yss := ⟨_, rfl⟩
            rw [hyss] at HNX
            have HYS := Lib.hid hyss
            have hyl : (kidsF ts f c0 beg j).length + yss.length ≤ 960800 := by rw [← List.length_append, ← HNX.out]; exact hf2
            obtain ⟨kj, hkj⟩ : ∃ kj, kidsF ts f c0 beg j = kj := ⟨_, rfl⟩
            rw [hkj] at HNX HR hyl HNV
            clear hb hr hd hcan hyss hkj hf1 hf2
            have hkl : nv = kj.length + 1 := HNV.out.symm
            have HKL := Lib.hid hkl
            clear hkl
            go_wp2_with fail
            refine (l1Has_any A2 m c2 beg (j : Int) l1 h1 _ HM.out (by omega) HSB.out _ HD.out).mono ?_
            rintro e w' ⟨rfl, rfl⟩
            go_wp2_with fail
            refine (l1Own_any A2 m c2 beg l1 h1 _ HM.out (by omega) HSB.out (by omega)).mono ?_
            rintro e w5 ⟨A5, c5, rfl, hown5, hb5⟩
            have hz5 := hb5.size
            have HOW5 := Lib.hid (hown5.alloc (.cells #[.int .i64 (j : Int)] 3))
            have HS5 := Lib.hid (seg_one w5 (j : Int) 3)
            have HLT5 := Lib.hid hown5.lt
            have HB5 := Lib.hid hb5
            clear hown5 hb5
            go_wp2_with (at_builtin; refine wpList_append_seg _ rfl _ _ 23 rfl wr.heap.size 3 i0 Try.underlying23 hi0 hz0 hz1 hz2 _ m _ rfl HOW5.out _ 1 1 [(j : Int)] _ _ rfl rfl HS5.out (by omega) (by simp; omega) ?_; intro v6 w6 hown6 hgr6; obtain ⟨A6, c6, rfl⟩ := ownsRow_form hown6; have HM6 := Lib.hid (show (beg ++ [(j : Int)]).length = m + 1 by rw [List.length_append, HM.out]; rfl); have hcp6 : m + 1 ≤ c6 := (by obtain ⟨_, h0 | ⟨g', cap', cur', hv', _, _, hnc', _⟩⟩ := hown6; omega; injection hv' with e1 e2 e3; omega); have HA6 := Lib.hid (ownsRow_own (ys := beg ++ [(j : Int)]) (by rw [HM6.out, List.map_append]; exact hown6)).2.seg; have hb6 : Below wr.heap.size wr w6 := (HB5.out.alloc hz5 _).grown hgr6 (by simp; omega) (fun g' hg' => (HLT5.out g' hg').1); have hz6 := hb6.size; have HR6 := Lib.hid (HR.out.below hb6); have HB6 := Lib.hid (HB.out.trans (hb6.mono hsz)); have HS6 := Lib.hid (HSA.out.below hb6 (by omega)); clear hown6 hgr6 hb6)
            refine (IH.out (f - 1) (by omega) (beg ++ [(j : Int)]) (m + 1) c6 A6 _ _ w6 (by have := HF.out; omega) HM6.out hcp6 HSN.out HS6.out (by omega) HA6.out (Nat.le_refl _)).mono ?_
            rw [HYS.out]
            rintro e w7 ⟨A7, n7, c7, us, rfl, hl7, hr7, hb7⟩
            have hz7 := hb7.size
            have HR7 := Lib.hid (HR6.out.below hb7)
            have HB7 := Lib.hid (HB6.out.trans (hb7.mono (by omega)))
            have HY7 := Lib.hid hr7
            have HL7 := Lib.hid hl7
            have HOB := Lib.hid (show ∀ g, (Value.slice B nv d).ownBlock = some g → g < w6.heap.size from fun g hg => (HR6.out.1.lt g hg).2)
            have hlen7 : nv + n7 ≤ 4194304 := by rw [← hl7, HKL.out]; omega
            clear hl7 hr7 hb7
            go_wp2_with (at_builtin; refine wpList_append_rows _ rfl _ _ 51 rfl w.heap.size 23 j0 Try.underlying51 hj0 hy0 hy1 hy2 _ _ _ rfl (by have h := HR7.out.1; rw [HNV.out] at h; exact h) _ _ _ _ rfl (by have h := HY7.out.1; rw [HL7.out] at h; exact h) HY7.out.2.one hlen7 (by omega) ?_; intro v8 w8 hown8 hgr8 hloc8; have HR8 := Lib.hid (HR7.out.app (HY7.out.2.far (by omega) HOB.out) (by rw [HL7.out, HNV.out]; exact hown8) hgr8 hloc8); have HB8 := Lib.hid (HB7.out.grown hgr8 (by omega) (fun g' hg' => (HR7.out.1.lt g' hg').1)); clear hown8 hgr8 hloc8)
            go_roundw
            case rel => exact ⟨j + 1, by omega, by go_num, HB8.out, _, by rw [HNX.out]; exact HR8.out⟩
            case measure => simp [intOf]; omega
          · have hcan : canT ts.length beg (j : Int) = false := by
              rw [Bool.eq_false_iff]
              intro h
              exact (canT_true.1 h).2 (of_decide_eq_true hd)
            have HNX := Lib.hid (show kidsF ts f c0 beg (j + 1) = kidsF ts f c0 beg j from kids_same hcan)
            have HD := Lib.hid hd
            clear hb hr hd hcan hf1 hf2
            go_wp2_with fail
            refine (l1Has_any A2 m c2 beg (j : Int) l1 h1 _ HM.out (by omega) HSB.out _ HD.out).mono ?_
            rintro e w' ⟨rfl, rfl⟩
            go_wp2
            go_roundw
            case rel => exact ⟨j + 1, by omega, by go_num, HB.out, vs, by rw [HNX.out]; exact HR.out⟩
            case measure => simp [intOf]; omega
        · obtain rfl : j = n := by omega
          clear hb hr
          go_wp2
          go_ret
          exact ⟨B, nv, d, vs, rfl, by rw [HALL.out]; exact HNV.out, by rw [HALL.out]; exact HR.out, HB.out⟩
end Go.Proofs.Ytbgcacgcfldjnaa

/-
  What is in a box, from the greatest inward; the checking program's answer.
  Conditions: the lists have at most 1048576 elements.
-/
import Derived.Test.YtjhgpbpincikiaaDepths
import Derived.Test.YtjhgpbpincikiaaTakeOut
namespace Go.Proofs.Ytjhgpbpincikiaa
set_option linter.unusedVariables false
open Go.RowKit

/-- The boxes on the way inward, with so many steps at most. -/
def inF (plan : List Int) : Nat → Int → List Int
  | 0, _ => []
  | f + 1, k => if k ∈ plan then ((plan.idxOf k : Nat) : Int) :: inF plan f ((plan.idxOf k : Nat) : Int) else []
def contL (plan : List Int) (k : Int) : List Int := inF plan 51 k
def contB (bs : List (Int × Int × Int)) (plan : List Int) (k : Int) : Bool := bothN bs plan && inB k 0 ((bs.length : Int) - 1)
theorem inF_length (plan : List Int) (f : Nat) : ∀ k, (inF plan f k).length ≤ f := by
  induction f with
  | zero => intro k; simp [inF]
  | succ f ih =>
    intro k
    rw [inF]
    split
    · have := ih ((plan.idxOf k : Nat) : Int)
      rw [List.length_cons]
      omega
    · simp
theorem inF_no {plan : List Int} (f : Nat) {k : Int} (h : k ∉ plan) : inF plan f k = [] := by
  cases f with
  | zero => rfl
  | succ f => rw [inF, if_neg h]
theorem inF_yes {plan : List Int} (f : Nat) {k : Int} (h : k ∈ plan) : inF plan (f + 1) k = ((plan.idxOf k : Nat) : Int) :: inF plan f ((plan.idxOf k : Nat) : Int) := by rw [inF, if_pos h]

/-- How much is left to look at. -/
def inM (bs : List (Int × Int × Int)) (v : Int) : Nat := if v < 0 then 0 else sizeU bs v
theorem inM_nat (bs : List (Int × Int × Int)) (i : Nat) : inM bs (i : Int) = sizeU bs (i : Int) := if_neg (by omega)

/-- What is known on the way inward: 'out' is told, 'k' is the box in whose inside is looked. -/
def InWay (bs : List (Int × Int × Int)) (plan : List Int) (tot out : List Int) (f : Nat) (k : Int) : Prop :=
  (∃ j : Nat, k = (j : Int) ∧ j < plan.length) ∧ out ++ inF plan f k = tot ∧ sizeU bs k ≤ f
theorem in_start {bs : List (Int × Int × Int)} {plan : List Int} (h : bothN bs plan = true) {j : Nat} (hj : j < plan.length) : InWay bs plan (contL plan (j : Int)) [] 51 (j : Int) :=
  ⟨⟨j, rfl, hj⟩, rfl, by have := (sizeU_le h hj).2; omega⟩
theorem in_end {bs : List (Int × Int × Int)} {plan tot out : List Int} {f : Nat} {k : Int} (h : InWay bs plan tot out f k) (hk : k ∉ plan) : out = tot := by
  rw [← h.2.1, inF_no f hk, List.append_nil]
theorem in_step {bs : List (Int × Int × Int)} {plan tot out : List Int} {f : Nat} {k : Int} (hb : bothN bs plan = true) (h : InWay bs plan tot out f k) (hk : k ∈ plan) :
    ∃ f', f = f' + 1 ∧ InWay bs plan tot (out ++ [((plan.idxOf k : Nat) : Int)]) f' ((plan.idxOf k : Nat) : Int) ∧ sizeU bs ((plan.idxOf k : Nat) : Int) < sizeU bs k ∧ 1 ≤ sizeU bs ((plan.idxOf k : Nat) : Int) := by
  have hi := List.idxOf_lt_length_of_mem hk
  have hv : plan[plan.idxOf k]? = some k := by rw [List.getElem?_eq_getElem hi, List.getElem_idxOf]
  have hup := sizeU_up hb hv
  have h1 := (sizeU_le hb hi).1
  have h3 := h.2.2
  obtain ⟨f', rfl⟩ : ∃ f', f = f' + 1 := ⟨f - 1, by omega⟩
  have h2 := h.2.1
  rw [inF_yes f' hk] at h2
  exact ⟨f', rfl, ⟨⟨_, rfl, hi⟩, by rw [List.append_assoc]; exact h2, by omega⟩, by omega, h1⟩
theorem in_len {bs : List (Int × Int × Int)} {plan tot out : List Int} {f : Nat} {k : Int} (h : InWay bs plan tot out f k) : out.length ≤ tot.length := by
  rw [← h.2.1, List.length_append]
  omega
theorem contL_length (plan : List Int) (k : Int) : (contL plan k).length ≤ 51 := inF_length _ _ _

set_option maxRecDepth 100000 in
set_option maxHeartbeats 2000000 in
theorem spec_ContentsOf (A B : Option Addr) (n c m d : Nat) (bs : List (Int × Int × Int)) (plan : List Int) (k : Int) (lo hi lo' hi' : Nat) (w : World) (hn : bs.length = n) (hlen : n ≤ 1048576) (hmd : m ≤ d) (hm : plan.length = m) (hm2 : m ≤ 1048576)
    (hs : Seg w lo hi A (flat3 bs)) (hB : hi ≤ w.heap.size) (hp : Seg w lo' hi' B plan) (hBp : hi' ≤ w.heap.size) (q : Bool) (hq : contB bs plan k = q) :
    Calls Try.prog 26 #[.slice A n c, .slice B m d, .int .i64 k] w (RetL q (someN q (contL plan k)) w) := by
  have HN := Lib.hid hn
  have HM := Lib.hid hm
  obtain ⟨q1, hq1⟩ : ∃ q1, bothN bs plan = q1 := ⟨_, rfl⟩
  obtain ⟨q2, hq2⟩ : ∃ q2, inB k 0 ((n : Int) - 1) = q2 := ⟨_, rfl⟩
  rw [contB, hn, hq1, hq2] at hq
  have HQ := Lib.hid hq1
  have HQ2 := Lib.hid hq2
  cases q1
  · obtain rfl : q = false := hq.symm
    clear hn hm hq1 hq2
    go_enter Try.func26, Try.ntmps26
    go_wp2_with fail
    refine (nePlanned_any _ _ _ _ _ _ bs plan lo hi lo' hi' _ HN.out hlen hs hB HM.out hm2 hmd hp hBp _ HQ.out).mono ?_
    rintro e w1 ⟨rfl, hb1⟩
    go_wp2
    go_ret2
    exact ⟨none, 0, 0, rfl, rfl, Own.nil_, hb1⟩
  have hln : n ≤ 7 := by rw [← hn]; exact (goodN_at (bothN_at hq1).1).2.1
  cases q2
  · obtain rfl : q = false := hq.symm
    clear hn hm hq1 hq2
    go_enter Try.func26, Try.ntmps26
    go_wp2_with fail
    refine (nePlanned_any _ _ _ _ _ _ bs plan lo hi lo' hi' _ HN.out hlen hs hB HM.out hm2 hmd hp hBp _ HQ.out).mono ?_
    rintro e w1 ⟨rfl, hb1⟩
    go_wp2_with fail
    refine (l1In_any k 0 ((n : Int) - 1) _ HQ2.out _).mono ?_
    rintro e w2 ⟨rfl, rfl⟩
    go_wp2
    go_ret2
    exact ⟨none, 0, 0, rfl, rfl, Own.nil_, hb1⟩
  obtain rfl : q = true := hq.symm
  obtain ⟨i0, hi0, hz0, hz1, hz2⟩ := info_parts int_info
  have hpb : plan.length = bs.length := (bothN_at hq1).2.1
  obtain ⟨kn, rfl⟩ : ∃ kn : Nat, k = (kn : Int) := ⟨k.toNat, by have := of_decide_eq_true hq2; omega⟩
  have hkl : kn < plan.length := by have := of_decide_eq_true hq2; omega
  have HW0 := Lib.hid (in_start hq1 hkl)
  have HTL := Lib.hid (contL_length plan (kn : Int))
  obtain ⟨tot, htot⟩ : ∃ tot, contL plan (kn : Int) = tot := ⟨_, rfl⟩
  rw [htot] at HW0 HTL
  have HTOT := Lib.hid htot
  clear hn hm hq1 hq2 hpb hkl htot
  go_enter Try.func26, Try.ntmps26
  go_wp2_with fail
  refine (nePlanned_any _ _ _ _ _ _ bs plan lo hi lo' hi' _ HN.out hlen hs hB HM.out hm2 hmd hp hBp _ HQ.out).mono ?_
  rintro e w1 ⟨rfl, hb1⟩
  have hz1' := hb1.size
  have HP1 := Lib.hid (hp.below hb1 hBp)
  have HB1 := Lib.hid hb1
  go_wp2_with fail
  refine (l1In_any (kn : Int) 0 ((n : Int) - 1) _ HQ2.out _).mono ?_
  rintro e w2 ⟨rfl, rfl⟩
  go_wp2_with fail
  refine (neInside_any _ m d plan (kn : Int) lo' hi' _ HM.out hm2 HP1.out).mono ?_
  rintro e w2 ⟨rfl, rfl⟩
  go_wp2
  go_loopw [8, 9] (fun v a wr => ∃ cur : Int, ∃ f : Nat, ∃ out : List Int, a = .int .i64 (placeI plan cur) ∧ Hid (InWay bs plan tot out f cur) ∧ Below w1.heap.size w1 wr ∧ wr.ownsRow w1.heap.size 3 1 v out.length (out.map (Value.int .i64))) (fun _ a _ => inM bs (intOf a))
  case atStart => exact ⟨(kn : Int), 51, [], rfl, HW0, Below.refl _ _, World.ownsRow_nil _ _ _ _⟩
  case round =>
    obtain ⟨cur, f, out, rfl, hway, hb, hown⟩ := hrel
    have hz := hb.size
    have hob : out.length ≤ 51 := Nat.le_trans (in_len hway.out) HTL.out
    by_cases hin : cur ∈ plan
    · have hpl : placeI plan cur = ((plan.idxOf cur : Nat) : Int) := by rw [placeI, if_pos hin]
      obtain ⟨f', _, hway', hlt, hge1⟩ := in_step HQ.out hway.out hin
      obtain ⟨i, hi⟩ : ∃ i, plan.idxOf cur = i := ⟨_, rfl⟩
      rw [hi] at hpl hway' hlt hge1
      rw [hpl]
      have HWAY := Lib.hid hway'
      have hif : sizeU bs (i : Int) ≥ 1 := hge1
      have HDEC := Lib.hid (show ∀ v, v = placeI plan (i : Int) → inM bs v < inM bs (i : Int) from by
        intro v hv
        by_cases hii : (i : Int) ∈ plan
        · obtain ⟨_, _, _, hlt2, _⟩ := in_step HQ.out hway' hii
          rw [hv, placeI, if_pos hii, inM_nat, inM_nat]
          exact hlt2
        · rw [hv, placeI, if_neg hii, inM_nat, show inM bs (-1) = 0 from rfl]
          omega)
      clear hpl hway hway' hlt hge1 hin hi
      go_wp2_with (first | (at_builtin; refine wpList_append_own _ rfl _ _ 30 rfl w1.heap.size 3 i0 (.int .i64 0) 1 8 Try.underlying30 hi0 hz0 hz1 hz2 rfl (by decide) _ _ _ rfl (hown.alloc _) ⟨wr.heap.size, 0, none⟩ 1 1 [.int .i64 (i : Int)] rfl rfl (one_new _ _ _) (by intro u hu; simp at hu; subst hu; rfl) (by unfold maxLen; omega) (by omega) (by simp; omega) ?_; intro v' w3 hown' hgrow _; have HB3 := Lib.hid ((hb.alloc hz _).grown hgrow (by simp; omega) (fun g' hg' => (hown.lt g' hg').1)); have HOW3 := Lib.hid (show w3.ownsRow w1.heap.size 3 1 v' (out ++ [(i : Int)]).length ((out ++ [(i : Int)]).map (Value.int .i64)) by simpa using hown')) | fail)
      refine (neInside_any _ m d plan (i : Int) lo' hi' _ HM.out hm2 (HP1.out.below HB3.out (by omega))).mono ?_
      rintro e w4 ⟨rfl, rfl⟩
      go_wp2
      go_roundw
      case rel => exact ⟨(i : Int), f', out ++ [(i : Int)], rfl, HWAY, HB3.out, HOW3.out⟩
      case measure =>
        have h := HDEC.out _ rfl
        first
          | exact h
          | (simp only [intOf]; exact h)
          | (simp [intOf]; exact h)
    · have hpl : placeI plan cur = -1 := by rw [placeI, if_neg hin]
      have hout := in_end hway.out hin
      rw [hpl]
      subst hout
      obtain ⟨A', c', rfl⟩ := ownsRow_form hown
      have HOWN := Lib.hid (ownsRow_own hown).2
      clear hpl hway hin
      go_wp2
      go_ret2
      exact ⟨A', out.length, c', rfl, by rw [HTOT.out]; rfl, by rw [HTOT.out]; exact HOWN.out.more hz1' (Nat.le_refl _), HB1.out.trans (hb.mono hz1')⟩
end Go.Proofs.Ytjhgpbpincikiaa

/-
  The given program's way to fill boxes: the plan of a rule for things in an order.
  Conditions: one to nine things, each from 1 to 100 and not above the room; the room at most 1000.
-/
import Derived.Test.YtgcljhgpihpfgacArr
import Derived.Test.YtgcljhgpihpfgacAsked
namespace Go.Proofs.Ytgcljhgpihpfgac
set_option linter.unusedVariables false
open Go.RowKit

def ints (is : List Nat) : List Int := is.map fun i : Nat => (i : Int)

theorem ints_range_snoc (k : Nat) : ints (List.range k) ++ [(k : Int)] = ints (List.range (k + 1)) := by simp [ints, List.range_succ]
theorem ints_length (is : List Nat) : (ints is).length = is.length := by simp [ints]

set_option maxHeartbeats 400000 in
theorem bxOrder_any (A : Option Addr) (n c : Nat) (w : World) (hlen : n ≤ 1048576) :
    Calls Try.prog 45 #[.slice A n c] w fun e w' => ∃ A' c', e = .returned (.slice A' n c') ∧ Own w' w.heap.size w'.heap.size A' (ints (List.range n)) ∧ Below w.heap.size w w' := by
  obtain ⟨i0, hi, hz0, hz1, hz2⟩ := info_parts int_info
  go_enter Try.func45, Try.ntmps45
  go_wp2
  go_loopw [3, 4, 7] (fun v _ i wr => ∃ k : Nat, k ≤ n ∧ i = .int .i64 k ∧ Below w.heap.size w wr ∧ wr.ownsRow w.heap.size 3 1 v k ((ints (List.range k)).map (Value.int .i64))) (fun _ _ i _ => n - (intOf i).toNat)
  case atStart => exact ⟨0, Nat.zero_le _, rfl, Below.refl _ _, World.ownsRow_nil _ _ _ _⟩
  case round =>
    obtain ⟨k, hk, rfl, hb, hown⟩ := hrel
    by_cases hlt : k < n
    · have hs := hb.size
      go_wp2_with (at_builtin; refine wpList_append_own _ rfl _ _ 22 rfl w.heap.size 3 i0 (.int .i64 0) 1 8 Try.underlying22 hi hz0 hz1 hz2 rfl (by decide) _ _ _ rfl (hown.alloc _) ⟨wr.heap.size, 0, none⟩ 1 1 [.int .i64 (k : Int)] rfl rfl (one_new _ _ _) (by intro u hu; simp at hu; subst hu; rfl) (by unfold maxLen; omega) (by omega) (by simp; omega) ?_; intro v' w1 hown' hgrow _)
      go_roundw
      case rel =>
        refine ⟨k + 1, by omega, by go_num, (hb.alloc hs _).grown hgrow (by simp; omega) (fun g hg => (hown.lt g hg).1), ?_⟩
        rw [← ints_range_snoc, List.map_append]
        exact hown'
      case measure => simp [intOf]; omega
    · obtain rfl : k = n := by omega
      obtain ⟨A', c', rfl⟩ := ownsRow_form hown
      go_wp2
      go_ret
      have hown2 : wr.ownsRow w.heap.size 3 1 (.slice A' k c') (ints (List.range k)).length ((ints (List.range k)).map (Value.int .i64)) := by simpa [ints] using hown
      exact ⟨A', c', rfl, (ownsRow_own hown2).2, hb⟩
set_option maxHeartbeats 1000000 in
set_option maxRecDepth 100000 in
theorem bxRule_any (A O : Option Addr) (n c m d : Nat) (room rule : Int) (xs : List Int) (is : List Nat) (lo hi lo' hi' : Nat) (w : World) (hn : xs.length = n) (hm : is.length = m)
    (hs : Seg w lo hi A xs) (ho : Seg w lo' hi' O (ints is)) (hB : hi ≤ w.heap.size) (hB' : hi' ≤ w.heap.size)
    (hn9 : n ≤ 9) (hm9 : m ≤ 9) (hx : ∀ x ∈ xs, 1 ≤ x ∧ x ≤ 100 ∧ x ≤ room) (hroom : 1 ≤ room ∧ room ≤ 1000) (his : ∀ i ∈ is, i < xs.length) :
    Calls Try.prog 44 #[.slice A n c, .slice O m d, .int .i64 room, .int .u8 rule] w fun e w' => e = .returned (.slice (some ⟨w.heap.size, 0, none⟩) n n) ∧
      Own w' w.heap.size w'.heap.size (some ⟨w.heap.size, 0, none⟩) (runOrd rule room xs is ([], List.replicate n 0)).2 ∧ Below w.heap.size w w' := by
  obtain ⟨i0, hi0, hz0, hz1, hz2⟩ := info_parts int_info
  have hmk := fun W : World => run_make_row' 22 3 (.int .i64 0) 8 Try.underlying22 int_info rfl .i64 .i64 n (by omega) (by omega) W
  have HN := Lib.hid hn
  have HM := Lib.hid hm
  have HX := Lib.hid hx
  have HI := Lib.hid his
  clear hn hm hx his
  go_enter Try.func44, Try.ntmps44
  go_wp2
  clear hmk
  go_loopw [10, 21] (fun v i wr => ∃ k : Nat, k ≤ m ∧ i = .int .i64 k ∧ Below w.heap.size w wr ∧ ∃ s, s = runOrd rule room xs (is.take k) ([], List.replicate n 0) ∧
      Arr wr w.heap.size 3 s.2 ∧ wr.ownsRow (w.heap.size + 1) 3 1 v s.1.length (s.1.map (Value.int .i64))) (fun _ i _ => m - (intOf i).toNat)
  case atStart => exact ⟨0, Nat.zero_le _, rfl, (Below.refl _ _).alloc (Nat.le_refl _) _, _, rfl, arr_new _ _ _, World.ownsRow_nil _ _ _ _⟩
  case round =>
    obtain ⟨k, hk, rfl, hb, s, hs0, hp, hown⟩ := hrel
    obtain ⟨ls, pl⟩ := s
    by_cases hlt : k < m
    · have hsz := hb.size
      have hgp := hp.lt
      obtain ⟨bo, oo, iv, rfl, _, hbo, hiv, hco⟩ := ho.at_ (k := k) (by rw [ints_length, HM.out]; exact hlt)
      obtain ⟨i, hik, rfl⟩ : ∃ i : Nat, is[k]? = some i ∧ (i : Int) = iv := by
        unfold ints at hiv
        rw [List.getElem?_map] at hiv
        rcases hk' : is[k]? with _ | i
        · rw [hk'] at hiv; cases hiv
        · rw [hk'] at hiv; injection hiv with hiv; exact ⟨i, rfl, hiv⟩
      have hin : i < n := by rw [← HN.out]; exact HI.out i (List.mem_of_getElem? hik)
      obtain ⟨bt, ot, size, rfl, _, hbt, hsz', hct⟩ := hs.at_ (k := i) (by rw [HN.out]; exact hin)
      have hsb := HX.out size (List.mem_of_getElem? hsz')
      have hcow : wr.cell? ⟨bo, oo + k, none⟩ = some (.int .i64 (i : Int)) := (hb.cell (by exact Nat.lt_of_lt_of_le hbo hB')).trans hco
      have hctw : wr.cell? ⟨bt, ot + i, none⟩ = some (.int .i64 size) := (hb.cell (by exact Nat.lt_of_lt_of_le hbt hB)).trans hct
      have hld : Loads room ls := by
        have e : ls = (runOrd rule room xs (is.take k) ([], List.replicate n 0)).1 := by rw [← hs0]
        rw [e]
        exact runOrd_loads HX.out (fun j hj => HI.out j (List.mem_of_mem_take hj)) (fun x hx => by cases hx)
      have hll : ls.length ≤ 9 := by
        have e : ls = (runOrd rule room xs (is.take k) ([], List.replicate n 0)).1 := by rw [← hs0]
        rw [e]
        refine Nat.le_trans (runOrd_len1 _ _ _ _ _) ?_
        simp
        omega
      have hpl : pl.length = n := by
        have e : pl = (runOrd rule room xs (is.take k) ([], List.replicate n 0)).2 := by rw [← hs0]
        rw [e, runOrd_len]
        simp
      have HS := Lib.hid hs0
      have HSZ := Lib.hid hsz'
      have HIK := Lib.hid hik
      have HPL := Lib.hid hpl
      clear hs0 hsz' hik hiv hco hct hpl
      obtain ⟨A', c', rfl⟩ := ownsRow_form hown
      have hseg := (ownsRow_own hown).2.seg
      go_wp2
      go_loop [13, 14, 15, 27] (fun best _ _ j => ∃ q : Nat, q ≤ ls.length ∧ j = .int .i64 q ∧ best = .int .i64 (fold rule room size ls q)) (fun _ _ _ j => ls.length - (intOf j).toNat)
      case atStart => exact ⟨0, Nat.zero_le _, rfl, rfl⟩
      case round =>
        obtain ⟨q, hq, rfl, rfl⟩ := hrel
        have hfb := fold_bd rule room size ls q
        by_cases hql : q < ls.length
        · obtain ⟨bl, ol, l, hA, _, _, hl, hcl⟩ := hseg.at_ (k := q) hql
          subst hA
          have hlb := hld.at_ hl
          by_cases c1 : room < l + size
          · have HF := Lib.hid (fold_skip (rule := rule) hl (Or.inl c1))
            clear hl
            obtain ⟨f, hf⟩ : ∃ f, f = fold rule room size ls q := ⟨_, rfl⟩
            rw [← hf] at HF hfb ⊢
            clear hf
            go_wp2
            go_round
            case rel => exact ⟨q + 1, by omega, by go_num, by rw [HF.out]⟩
            case measure => simp [intOf]; omega
          · have c1' : decide (room < l + size) = false := by rw [decide_eq_false_iff_not]; exact c1
            by_cases r110 : rule = 110
            · subst r110
              by_cases c3 : (q : Int) < (ls.length : Int) - 1
              · have HF := Lib.hid (fold_skip (rule := 110) (room := room) (size := size) hl (Or.inr ⟨rfl, c3⟩))
                clear hl
                obtain ⟨f, hf⟩ : ∃ f, f = fold 110 room size ls q := ⟨_, rfl⟩
                rw [← hf] at HF hfb ⊢
                clear hf
                go_wp2
                go_round
                case rel => exact ⟨q + 1, by omega, by go_num, by rw [HF.out]⟩
                case measure => simp [intOf]; omega
              · have c3' : decide ((q : Int) < (ls.length : Int) - 1) = false := by rw [decide_eq_false_iff_not]; exact c3
                by_cases c4 : fold 110 room size ls q < 0
                · have HF := Lib.hid (fold_set (rule := 110) hl (by rintro (h | ⟨h, h'⟩) <;> first | exact c1 h | omega) (Or.inl c4))
                  clear hl
                  obtain ⟨f, hf⟩ : ∃ f, f = fold 110 room size ls q := ⟨_, rfl⟩
                  rw [← hf] at hfb c4 ⊢
                  clear hf
                  go_wp2
                  go_round
                  case rel => exact ⟨q + 1, by omega, by go_num, by rw [HF.out]⟩
                  case measure => simp [intOf]; omega
                · have c4' : decide (fold 110 room size ls q < 0) = false := by rw [decide_eq_false_iff_not]; exact c4
                  obtain ⟨mm, hmm⟩ : ∃ mm : Nat, fold 110 room size ls q = (mm : Int) := ⟨(fold 110 room size ls q).toNat, by omega⟩
                  have hmq : mm < ls.length := by omega
                  obtain ⟨bl', ol', lm, hA', _, _, hlm, hclm⟩ := hseg.at_ (k := mm) hmq
                  obtain ⟨rfl, rfl⟩ : bl = bl' ∧ ol = ol' := by injection hA' with hA'; injection hA' with h1 h2; exact ⟨h1, h2⟩
                  clear hA'
                  have HF := Lib.hid (fold_keep (rule := 110) (room := room) (size := size) hl hmm hlm (by rintro (⟨h, h'⟩ | ⟨h, h'⟩) <;> omega))
                  rw [hmm] at HF hfb c4' ⊢
                  clear hl hlm hmm c4
                  go_wp2
                  go_round
                  case rel => exact ⟨q + 1, by omega, by go_num, by rw [HF.out]⟩
                  case measure => simp [intOf]; omega
            · have r110' : (rule == 110) = false := by simpa using r110
              by_cases r98 : rule = 98
              · subst r98
                by_cases c4 : fold 98 room size ls q < 0
                · have HF := Lib.hid (fold_set (rule := 98) hl (by rintro (h | ⟨h, h'⟩) <;> first | exact c1 h | omega) (Or.inl c4))
                  clear hl
                  obtain ⟨f, hf⟩ : ∃ f, f = fold 98 room size ls q := ⟨_, rfl⟩
                  rw [← hf] at hfb c4 ⊢
                  clear hf
                  go_wp2
                  go_round
                  case rel => exact ⟨q + 1, by omega, by go_num, by rw [HF.out]⟩
                  case measure => simp [intOf]; omega
                · have c4' : decide (fold 98 room size ls q < 0) = false := by rw [decide_eq_false_iff_not]; exact c4
                  obtain ⟨mm, hmm⟩ : ∃ mm : Nat, fold 98 room size ls q = (mm : Int) := ⟨(fold 98 room size ls q).toNat, by omega⟩
                  have hmq : mm < ls.length := by omega
                  obtain ⟨bl', ol', lm, hA', _, _, hlm, hclm⟩ := hseg.at_ (k := mm) hmq
                  obtain ⟨rfl, rfl⟩ : bl = bl' ∧ ol = ol' := by injection hA' with hA'; injection hA' with h1 h2; exact ⟨h1, h2⟩
                  clear hA'
                  by_cases c5 : lm < l
                  · have HF := Lib.hid (fold_set (rule := 98) hl (by rintro (h | ⟨h, h'⟩) <;> first | exact c1 h | omega) (Or.inr ⟨mm, lm, hmm, hlm, Or.inl ⟨rfl, c5⟩⟩))
                    rw [hmm] at hfb c4' ⊢
                    clear hl hlm hmm c4
                    go_wp2
                    go_round
                    case rel => exact ⟨q + 1, by omega, by go_num, by rw [HF.out]⟩
                    case measure => simp [intOf]; omega
                  · have c5' : decide (lm < l) = false := by rw [decide_eq_false_iff_not]; exact c5
                    have HF := Lib.hid (fold_keep (rule := 98) hl hmm hlm (by rintro (⟨h, h'⟩ | ⟨h, h'⟩) <;> first | exact c5 h' | omega))
                    rw [hmm] at HF hfb c4' ⊢
                    clear hl hlm hmm c4
                    go_wp2
                    go_round
                    case rel => exact ⟨q + 1, by omega, by go_num, by rw [HF.out]⟩
                    case measure => simp [intOf]; omega
              · have r98' : (rule == 98) = false := by simpa using r98
                by_cases r119 : rule = 119
                · subst r119
                  by_cases c4 : fold 119 room size ls q < 0
                  · have HF := Lib.hid (fold_set (rule := 119) hl (by rintro (h | ⟨h, h'⟩) <;> first | exact c1 h | omega) (Or.inl c4))
                    clear hl
                    obtain ⟨f, hf⟩ : ∃ f, f = fold 119 room size ls q := ⟨_, rfl⟩
                    rw [← hf] at hfb c4 ⊢
                    clear hf
                    go_wp2
                    go_round
                    case rel => exact ⟨q + 1, by omega, by go_num, by rw [HF.out]⟩
                    case measure => simp [intOf]; omega
                  · have c4' : decide (fold 119 room size ls q < 0) = false := by rw [decide_eq_false_iff_not]; exact c4
                    obtain ⟨mm, hmm⟩ : ∃ mm : Nat, fold 119 room size ls q = (mm : Int) := ⟨(fold 119 room size ls q).toNat, by omega⟩
                    have hmq : mm < ls.length := by omega
                    obtain ⟨bl', ol', lm, hA', _, _, hlm, hclm⟩ := hseg.at_ (k := mm) hmq
                    obtain ⟨rfl, rfl⟩ : bl = bl' ∧ ol = ol' := by injection hA' with hA'; injection hA' with h1 h2; exact ⟨h1, h2⟩
                    clear hA'
                    by_cases c5 : l < lm
                    · have HF := Lib.hid (fold_set (rule := 119) hl (by rintro (h | ⟨h, h'⟩) <;> first | exact c1 h | omega) (Or.inr ⟨mm, lm, hmm, hlm, Or.inr ⟨rfl, c5⟩⟩))
                      rw [hmm] at hfb c4' ⊢
                      clear hl hlm hmm c4
                      go_wp2
                      go_round
                      case rel => exact ⟨q + 1, by omega, by go_num, by rw [HF.out]⟩
                      case measure => simp [intOf]; omega
                    · have c5' : decide (l < lm) = false := by rw [decide_eq_false_iff_not]; exact c5
                      have HF := Lib.hid (fold_keep (rule := 119) hl hmm hlm (by rintro (⟨h, h'⟩ | ⟨h, h'⟩) <;> first | exact c5 h' | omega))
                      rw [hmm] at HF hfb c4' ⊢
                      clear hl hlm hmm c4
                      go_wp2
                      go_round
                      case rel => exact ⟨q + 1, by omega, by go_num, by rw [HF.out]⟩
                      case measure => simp [intOf]; omega
                · have r119' : (rule == 119) = false := by simpa using r119
                  by_cases c4 : fold rule room size ls q < 0
                  · have HF := Lib.hid (fold_set (rule := rule) hl (by rintro (h | ⟨h, h'⟩) <;> first | exact c1 h | omega) (Or.inl c4))
                    clear hl
                    obtain ⟨f, hf⟩ : ∃ f, f = fold rule room size ls q := ⟨_, rfl⟩
                    rw [← hf] at hfb c4 ⊢
                    clear hf
                    go_wp2
                    go_round
                    case rel => exact ⟨q + 1, by omega, by go_num, by rw [HF.out]⟩
                    case measure => simp [intOf]; omega
                  · have c4' : decide (fold rule room size ls q < 0) = false := by rw [decide_eq_false_iff_not]; exact c4
                    obtain ⟨mm, hmm⟩ : ∃ mm : Nat, fold rule room size ls q = (mm : Int) := ⟨(fold rule room size ls q).toNat, by omega⟩
                    have hmq : mm < ls.length := by omega
                    obtain ⟨bl', ol', lm, hA', _, _, hlm, hclm⟩ := hseg.at_ (k := mm) hmq
                    obtain ⟨rfl, rfl⟩ : bl = bl' ∧ ol = ol' := by injection hA' with hA'; injection hA' with h1 h2; exact ⟨h1, h2⟩
                    clear hA'
                    have HF := Lib.hid (fold_keep (rule := rule) (room := room) (size := size) hl hmm hlm (by rintro (⟨h, h'⟩ | ⟨h, h'⟩) <;> omega))
                    rw [hmm] at HF hfb c4' ⊢
                    clear hl hlm hmm c4
                    go_wp2
                    go_round
                    case rel => exact ⟨q + 1, by omega, by go_num, by rw [HF.out]⟩
                    case measure => simp [intOf]; omega
        · obtain rfl : q = ls.length := by omega
          clear hq hql
          obtain ⟨pv, hpv, hcp⟩ := hp.at_ (k := i) (by rw [HPL.out]; exact hin)
          have hfp := hp.frozen i
          have HPV := Lib.hid hpv
          clear hpv
          by_cases c4 : fold rule room size ls ls.length < 0
          · have HP := Lib.hid (show pick rule room size ls = ls.length by unfold pick; rw [if_pos c4])
            obtain ⟨f, hf⟩ : ∃ f, f = fold rule room size ls ls.length := ⟨_, rfl⟩
            rw [← hf] at hfb c4 ⊢
            clear hf
            go_wp2_with (at_builtin; refine wpList_append_own _ rfl _ _ 22 rfl (w.heap.size + 1) 3 i0 (.int .i64 0) 1 8 Try.underlying22 hi0 hz0 hz1 hz2 rfl (by decide) _ _ _ rfl (hown.alloc _) ⟨wr.heap.size, 0, none⟩ 1 1 [.int .i64 0] rfl rfl (one_new _ _ _) (by intro u hu; simp at hu; subst hu; rfl) (by unfold maxLen; omega) (by omega) (by simp; omega) ?_; intro v' w1 hown' hgrow _; have hown1 : w1.ownsRow (w.heap.size + 1) 3 1 v' (ls.length + 1) ((ls ++ [0]).map (Value.int .i64)) := (by simpa using hown'); clear hown'; obtain ⟨g, cap, rfl, hg1, hg2, hcl, hfr⟩ := ownsRow_head hown1 (by omega); have hcg := hcl ls.length 0 (by simp); have hfg := hfr ls.length; have hb1 : Below w.heap.size w w1 := ((hb.alloc hsz _).grown hgrow (by simp; omega) (fun g' hg' => by have := (hown.lt g' hg').1; omega)); have hct1 : w1.cell? ⟨bt, ot + i, none⟩ = some (.int .i64 size) := ((hb1.cell (by exact Nat.lt_of_lt_of_le hbt hB)).trans ((hb.cell (by exact Nat.lt_of_lt_of_le hbt hB)).symm.trans hctw)); have hp1 : Arr w1 w.heap.size 3 pl := ((hp.alloc _).grown hgrow (by intro e; have := (hown.lt _ e).1; omega)); have hcp1 : w1.cell? ⟨w.heap.size, i, none⟩ = some (.int .i64 pv) := (hp1.cell HPV.out); have hfp1 := hp1.frozen i; clear hcl hfr)
            have hng : ¬ w.heap.size = g := by omega
            go_region
            all_goals go_wp2
            go_roundw
            case rel =>
              refine ⟨k + 1, by omega, by go_num, ?_, _, runOrd_step HS.out HIK.out HSZ.out HP.out, ?_, ?_⟩
              · exact ((hb1.setCell (p := ⟨g, ls.length, none⟩) (by show _ ≤ g; omega) _).setCell (p := ⟨w.heap.size, i, none⟩) (Nat.le_refl _) _).drew
              · exact (hp1.far (p := ⟨g, ls.length, none⟩) (by show g ≠ _; omega) _).set i _
              · have e1 : (addTo ls ls.length size).length = ls.length + 1 := by rw [addTo_new]; simp
                show World.ownsRow _ _ _ _ _ (addTo ls ls.length size).length ((addTo ls ls.length size).map _)
                rw [e1, addTo_new]
                exact ownsRow_setCell_below (ownsRow_set hown1 ls.length size) (a := ⟨w.heap.size, i, none⟩) (by show w.heap.size < _; omega) _
            case measure => simp [intOf]; omega
          · obtain ⟨mm, hmm⟩ : ∃ mm : Nat, fold rule room size ls ls.length = (mm : Int) := ⟨(fold rule room size ls ls.length).toNat, by omega⟩
            have hmq : mm < ls.length := by omega
            have HP := Lib.hid (show pick rule room size ls = mm by unfold pick; rw [if_neg c4, hmm]; rfl)
            obtain ⟨g, cap, hv, hg1, hg2, hcl, hfr⟩ := ownsRow_head hown (by omega)
            obtain ⟨rfl, rfl⟩ : A' = some ⟨g, 0, none⟩ ∧ c' = cap := by injection hv with h1 h2 h3; exact ⟨h1, h3⟩
            clear hv
            have hlm : ls[mm]? = some ls[mm] := List.getElem?_eq_getElem hmq
            obtain ⟨lm, hlme⟩ : ∃ lm, lm = ls[mm] := ⟨_, rfl⟩
            rw [← hlme] at hlm
            clear hlme
            have hlmb := hld.at_ hlm
            have hcg := hcl mm lm hlm
            have hfg := hfr mm
            have HL := Lib.hid hlm
            rw [hmm] at hfb ⊢
            have c4' : decide ((mm : Int) < 0) = false := by rw [decide_eq_false_iff_not]; omega
            have hng : ¬ w.heap.size = g := by omega
            clear hlm hmm c4 hcl hfr
            go_wp2
            go_region
            all_goals go_wp2
            go_roundw
            case rel =>
              refine ⟨k + 1, by omega, by go_num, ?_, _, runOrd_step HS.out HIK.out HSZ.out HP.out, ?_, ?_⟩
              · exact ((hb.setCell (p := ⟨g, mm, none⟩) (by show _ ≤ g; omega) _).setCell (p := ⟨w.heap.size, i, none⟩) (Nat.le_refl _) _).drew
              · exact (hp.far (p := ⟨g, mm, none⟩) (by show g ≠ _; omega) _).set i _
              · have e1 : (addTo ls mm size).length = ls.length := by rw [addTo_old HL.out]; simp
                show World.ownsRow _ _ _ _ _ (addTo ls mm size).length ((addTo ls mm size).map _)
                rw [e1, addTo_old HL.out]
                exact ownsRow_setCell_below (ownsRow_set hown mm (lm + size)) (a := ⟨w.heap.size, i, none⟩) (by show w.heap.size < _; omega) _
            case measure => simp [intOf]; omega
    · obtain rfl : k = m := by omega
      have e : pl = (runOrd rule room xs is ([], List.replicate n 0)).2 := by
        have h : is.take k = is := by rw [← HM.out, List.take_length]
        rw [h] at hs0
        rw [← hs0]
      have HE := Lib.hid e
      clear e hs0
      go_wp2
      go_ret
      exact ⟨rfl, by rw [← HE.out]; exact hp.own (Nat.le_refl _) hp.lt, hb⟩
end Go.Proofs.Ytgcljhgpihpfgac

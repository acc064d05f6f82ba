/-
  The given program's loads of a plan.
  Conditions: one to nine things, each from 1 to 100 and not above the room; a room of at most 1000; a plan of at most 1048576 numbers.
-/
import Derived.Test.YtplohhmggfifkabFollM
import Derived.Test.YtplohhmggfifkabArr
import Derived.Test.YtplohhmggfifkabAsked
namespace Go.Proofs.Ytplohhmggfifkab
set_option linter.unusedVariables false
open Go.RowKit

/-- The loads, or that there are none. -/
def LoadsRet (r : Option (List Int)) (w : World) (e : Ending) (w' : World) : Prop :=
  (r = none ∧ e = .returned (.tuple #[.slice none 0 0, .bool false]) ∧ Below w.heap.size w w') ∨
  ∃ ls A c, r = some ls ∧ e = .returned (.tuple #[.slice A ls.length c, .bool true]) ∧ Own w' w.heap.size w'.heap.size A ls ∧ Below w.heap.size w w'

set_option maxHeartbeats 2000000 in
set_option maxRecDepth 100000 in
theorem bxLoads_any (A D : Option Addr) (n c m d : Nat) (room : Int) (xs plan : List Int) (lo hi lo' hi' : Nat) (w : World) (hn : xs.length = n) (hm : plan.length = m) (hm2 : m ≤ 1048576)
    (hs : Seg w lo hi A xs) (ho : Seg w lo' hi' D plan) (hB : hi ≤ w.heap.size) (hB' : hi' ≤ w.heap.size)
    (hn9 : n ≤ 9) (hx : ∀ x ∈ xs, 1 ≤ x ∧ x ≤ 100 ∧ x ≤ room) (hroom : 1 ≤ room ∧ room ≤ 1000) :
    Calls Try.prog 98 #[.slice A n c, .int .i64 room, .slice D m d] w (LoadsRet (loadsM room xs plan) w) := by
  obtain ⟨i0, hi0, hz0, hz1, hz2⟩ := info_parts int_info
  have HN := Lib.hid hn
  have HM := Lib.hid hm
  have HX := Lib.hid hx
  clear hn hm hx
  by_cases hmn : m = n
  · subst hmn
    go_enter Try.func98, Try.ntmps98
    go_wp2
    go_loopw [8, 18] (fun v i wr => ∃ k : Nat, k ≤ m ∧ i = .int .i64 k ∧ Below w.heap.size w wr ∧ ∃ ls, foll room xs plan k = some ls ∧
        wr.ownsRow w.heap.size 3 1 v ls.length (ls.map (Value.int .i64))) (fun _ i _ => m - (intOf i).toNat)
    case atStart => exact ⟨0, Nat.zero_le _, rfl, Below.refl _ _, [], rfl, World.ownsRow_nil _ _ _ _⟩
    case round =>
      obtain ⟨k, hk, rfl, hb, ls, hf, hown⟩ := hrel
      have hsz := hb.size
      obtain ⟨hld, hll⟩ := foll_loads HX.out (by rw [HN.out]; exact hk) hf
      have HF := Lib.hid hf
      clear hf
      obtain ⟨A', c', rfl⟩ := ownsRow_form hown
      have hseg := (ownsRow_own hown).2.seg
      by_cases hlt : k < m
      · obtain ⟨bo, oo, b, rfl, _, hbo, hbv, hco⟩ := ho.at_ (k := k) (by rw [HM.out]; exact hlt)
        obtain ⟨bt, ot, size, rfl, _, hbt, hsz', hct⟩ := hs.at_ (k := k) (by rw [HN.out]; exact hlt)
        have hsb := HX.out size (List.mem_of_getElem? hsz')
        have hcow : wr.cell? ⟨bo, oo + k, none⟩ = some (.int .i64 b) := (hb.cell (by exact Nat.lt_of_lt_of_le hbo hB')).trans hco
        have hctw : wr.cell? ⟨bt, ot + k, none⟩ = some (.int .i64 size) := (hb.cell (by exact Nat.lt_of_lt_of_le hbt hB)).trans hct
        have HBV := Lib.hid hbv
        have HSZ := Lib.hid hsz'
        clear hbv hsz' hco hct
        by_cases hin : 0 ≤ b ∧ b ≤ (ls.length : Int)
        · have hib : inB b 0 (ls.length : Int) = true := inB_true.2 hin
          obtain ⟨bn, rfl⟩ : ∃ bn : Nat, b = (bn : Int) := ⟨b.toNat, by omega⟩
          by_cases hnew : bn = ls.length
          · subst hnew
            have hst : stepL room ls (ls.length : Int) size = some (addTo ls ls.length size) := stepL_ok (Nat.le_refl _) (by simp [List.getD]; omega)
            have HST := Lib.hid (foll_step HF.out HBV.out HSZ.out hst)
            clear hst hin
            go_wp2_with (first
              | (go_at_call 64; refine (l1In_any _ _ _ true hib _).mono ?_; rintro e w' ⟨rfl, rfl⟩)
              | (at_builtin; refine wpList_append_own _ rfl _ _ 22 rfl w.heap.size 3 i0 (.int .i64 0) 1 8 Try.underlying22 hi0 hz0 hz1 hz2 rfl (by decide) _ _ _ rfl (hown.alloc _) ⟨wr.heap.size, 0, none⟩ 1 1 [.int .i64 0] rfl rfl (one_new _ _ _) (by intro u hu; simp at hu; subst hu; rfl) (by unfold maxLen; omega) (by omega) (by simp; omega) ?_; intro v' w1 hown' hgrow _; have hown1 : w1.ownsRow w.heap.size 3 1 v' (ls.length + 1) ((ls ++ [0]).map (Value.int .i64)) := (by simpa using hown'); clear hown'; obtain ⟨g, cap, rfl, hg1, hg2, hcl, hfr⟩ := ownsRow_head hown1 (by omega); have hcg := hcl ls.length 0 (by simp); have hfg := hfr ls.length; have hb1 : Below w.heap.size w w1 := ((hb.alloc hsz _).grown hgrow (by simp; omega) (fun g' hg' => by have := (hown.lt g' hg').1; omega)); have hct1 : w1.cell? ⟨bt, ot + k, none⟩ = some (.int .i64 size) := ((hb1.cell (by exact Nat.lt_of_lt_of_le hbt hB)).trans ((hb.cell (by exact Nat.lt_of_lt_of_le hbt hB)).symm.trans hctw)); clear hcl hfr))
            go_region
            all_goals go_wp2
            go_roundw
            case rel =>
              refine ⟨k + 1, by omega, by go_num, (hb1.setCell (p := ⟨g, ls.length, none⟩) (by show _ ≤ g; omega) _).drew, _, HST.out, ?_⟩
              have e1 : (addTo ls ls.length size).length = ls.length + 1 := by rw [addTo_new]; simp
              rw [e1, addTo_new]
              exact ownsRow_set hown1 ls.length size
            case measure => simp [intOf]; omega
          · have hbl : bn < ls.length := by omega
            obtain ⟨g, cap, hv, hg1, hg2, hcl, hfr⟩ := ownsRow_head hown (by omega)
            obtain ⟨rfl, rfl⟩ : A' = some ⟨g, 0, none⟩ ∧ c' = cap := by injection hv with h1 h2 h3; exact ⟨h1, h3⟩
            clear hv
            obtain ⟨l, hle⟩ : ∃ l, l = ls[bn] := ⟨_, rfl⟩
            have hl : ls[bn]? = some l := by rw [hle]; exact List.getElem?_eq_getElem hbl
            clear hle
            have hlb := hld.at_ hl
            have hcg := hcl bn l hl
            have hfg := hfr bn
            have hne : ((bn : Int) == (ls.length : Int)) = false := by rw [beq_eq_false_iff_ne]; omega
            have hgd : ls.getD bn 0 = l := by simp [List.getD, hl]
            have HL := Lib.hid hl
            by_cases hfit : l + size ≤ room
            · have hst : stepL room ls (bn : Int) size = some (addTo ls bn size) := stepL_ok (by omega) (by rw [hgd]; exact hfit)
              have HST := Lib.hid (foll_step HF.out HBV.out HSZ.out hst)
              clear hst hin hgd hl hcl hfr
              go_wp2_with (go_at_call 64; refine (l1In_any _ _ _ true hib _).mono ?_; rintro e w' ⟨rfl, rfl⟩)
              go_region
              all_goals go_wp2
              go_roundw
              case rel =>
                refine ⟨k + 1, by omega, by go_num, (hb.setCell (p := ⟨g, bn, none⟩) (by show _ ≤ g; omega) _).drew, _, HST.out, ?_⟩
                have e1 : (addTo ls bn size).length = ls.length := by rw [addTo_old HL.out]; simp
                rw [e1, addTo_old HL.out]
                exact ownsRow_set hown bn (l + size)
              case measure => simp [intOf]; omega
            · have hst : stepL room ls (bn : Int) size = none := stepL_full (by rw [hgd]; exact hfit)
              have HST := Lib.hid (foll_fail HF.out HBV.out HSZ.out hst hlt)
              clear hst hin hgd hl hcl hfr
              go_wp2_with (go_at_call 64; refine (l1In_any _ _ _ true hib _).mono ?_; rintro e w' ⟨rfl, rfl⟩)
              go_region
              all_goals go_wp2
              all_goals go_ret2
              all_goals exact Or.inl ⟨by rw [loadsM_eq (by rw [HN.out, HM.out]), HN.out]; exact HST.out, rfl, (hb.setCell (p := ⟨g, bn, none⟩) (by show _ ≤ g; omega) _).drew⟩
        · have hib : inB b 0 (ls.length : Int) = false := inB_false.2 hin
          have hst : stepL room ls b size = none := by unfold stepL; rw [if_neg (by omega)]
          have HST := Lib.hid (foll_fail HF.out HBV.out HSZ.out hst hlt)
          clear hst hin
          go_wp2_with (go_at_call 64; refine (l1In_any _ _ _ false hib _).mono ?_; rintro e w' ⟨rfl, rfl⟩)
          go_ret2
          exact Or.inl ⟨by rw [loadsM_eq (by rw [HN.out, HM.out]), HN.out]; exact HST.out, rfl, hb⟩
      · obtain rfl : k = m := by omega
        have ho2 := (ownsRow_own hown).2
        go_wp2
        go_ret2
        exact Or.inr ⟨ls, _, _, by rw [loadsM_eq (by rw [HN.out, HM.out]), HN.out]; exact HF.out, rfl, ho2, hb⟩
  · have hne : ((m : Int) == (n : Int)) = false := by rw [beq_eq_false_iff_ne]; omega
    have hne2 : ((m : Int) != (n : Int)) = true := by rw [bne_iff_ne]; omega
    go_enter Try.func98, Try.ntmps98
    go_wp2
    go_ret2
    exact Or.inl ⟨loadsM_ne (by rw [HN.out, HM.out]; exact hmn), rfl, Below.refl _ _⟩
end Go.Proofs.Ytplohhmggfifkab

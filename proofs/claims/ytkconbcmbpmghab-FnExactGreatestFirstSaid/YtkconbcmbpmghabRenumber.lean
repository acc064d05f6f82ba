/-
  The written program tells boxes in the order of their first things.
  Conditions: at most nine boxes.
-/
import Derived.Test.YtkconbcmbpmghabNamedM
import Derived.Test.YtkconbcmbpmghabIdx
import Derived.Test.YtkconbcmbpmghabArr
import Derived.Test.YtkconbcmbpmghabMem
namespace Go.Proofs.Ytkconbcmbpmghab
set_option linter.unusedVariables false
open Go.RowKit

theorem fill_step {ys : List Int} {n k : Nat} {v : Int} (h : ys[k]? = some v) (hl : ys.length = n) : (ys.take k ++ List.replicate (n - k) 0).set k v = ys.take (k + 1) ++ List.replicate (n - (k + 1)) 0 := by
  have hk := (List.getElem?_eq_some_iff.1 h).1
  rw [show n - k = (n - (k + 1)) + 1 by omega, List.replicate_succ, take_snoc h]
  have ht : (ys.take k).length = k := by rw [List.length_take]; omega
  rw [List.set_append_right _ _ (by omega), ht, Nat.sub_self, List.set_cons_zero, List.append_assoc]
  rfl

theorem placeI_add (ns : List Int) (b : Int) : placeI (namesAdd ns b) b = ((namesAdd ns b).idxOf b : Int) := by
  unfold placeI
  rw [if_pos (mem_namesAdd ns b)]

set_option maxHeartbeats 1000000 in
set_option maxRecDepth 100000 in
theorem renumbered_any (A : Option Addr) (n c : Nat) (bs : List Int) (lo hi : Nat) (w : World) (hn : bs.length = n) (hn9 : n ≤ 9) (hs : Seg w lo hi A bs) (hB : hi ≤ w.heap.size) :
    Calls Try.prog 70 #[.slice A n c] w fun e w' => e = .returned (.slice (some ⟨w.heap.size, 0, none⟩) n n) ∧ Own w' w.heap.size w'.heap.size (some ⟨w.heap.size, 0, none⟩) (namedL bs) ∧ Below w.heap.size w w' := by
  obtain ⟨i0, hi0, hz0, hz1, hz2⟩ := info_parts int_info
  have hmk := fun W : World => run_make_row' 30 3 (.int .i64 0) 8 Try.underlying30 int_info rfl .i64 .i64 n (by omega) (by omega) W
  have HN := Lib.hid hn
  have HNL := Lib.hid ((named_length bs).trans hn)
  clear hn
  go_enter Try.func70, Try.ntmps70
  go_wp2
  clear hmk
  go_loopw [3, 12] (fun v i wr => ∃ k : Nat, k ≤ n ∧ i = .int .i64 k ∧ Below w.heap.size w wr ∧ Arr wr w.heap.size 3 ((namedL bs).take k ++ List.replicate (n - k) 0) ∧
      ∃ ns, namesL (bs.take k) = ns ∧ wr.ownsRow (w.heap.size + 1) 3 1 v ns.length (ns.map (Value.int .i64))) (fun _ i _ => n - (intOf i).toNat)
  case atStart => exact ⟨0, Nat.zero_le _, rfl, (Below.refl _ _).alloc (Nat.le_refl _) _, arr_new _ _ _, [], rfl, World.ownsRow_nil _ _ _ _⟩
  case round =>
    obtain ⟨k, hk, rfl, hb, hp, ns, hns, hown⟩ := hrel
    have hsz := hb.size
    have hgp := hp.lt
    have hnl : ns.length ≤ 9 := by
      have := names_length (bs.take k)
      rw [hns, List.length_take] at this
      omega
    have HNS := Lib.hid hns
    clear hns
    obtain ⟨A', c', rfl⟩ := ownsRow_form hown
    have hseg := (ownsRow_own hown).2.seg
    by_cases hlt : k < n
    · obtain ⟨bo, oo, b, rfl, _, hbo, hbv, hco⟩ := hs.at_ (k := k) (by rw [HN.out]; exact hlt)
      have hcow : wr.cell? ⟨bo, oo + k, none⟩ = some (.int .i64 b) := (hb.cell (by exact Nat.lt_of_lt_of_le hbo hB)).trans hco
      have hnx := named_at hbv
      rw [HNS.out] at hnx
      have hnsx : namesL (bs.take (k + 1)) = namesAdd ns b := by rw [take_snoc hbv, names_snoc, HNS.out]
      have HNX := Lib.hid hnsx
      have HAT := Lib.hid hnx
      have hfs := fill_step hnx HNL.out
      have HFS := Lib.hid hfs
      have hplen : ((namedL bs).take k ++ List.replicate (n - k) 0).length = n := by
        rw [List.length_append, List.length_take, List.length_replicate, HNL.out]
        omega
      have HPL := Lib.hid hplen
      obtain ⟨pv, hpv, hcp⟩ := hp.at_ (k := k) (by rw [hplen]; exact hlt)
      have hfp := hp.frozen k
      have HPV := Lib.hid hpv
      clear hnx hnsx hfs hplen hpv hbv hco
      by_cases hmem : b ∈ ns
      · have hadd : namesAdd ns b = ns := by unfold namesAdd; rw [if_pos hmem]
        have hd : decide (b ∈ ns) = true := by rw [decide_eq_true_iff]; exact hmem
        have hpl := placeI_add ns b
        rw [hadd] at HNX HFS hpl
        have HD := Lib.hid hd
        have HPI := Lib.hid hpl
        clear hadd hd hpl hmem
        go_wp2_with fail
        refine (slicesContains_any _ _ _ ns b _ _ _ rfl (by omega) hseg).mono ?_
        rintro e w1 ⟨rfl, rfl⟩
        rw [HD.out]
        go_wp2_with fail
        refine (slicesIndex_any _ _ _ ns b _ _ _ rfl (by omega) hseg).mono ?_
        rintro e w1 ⟨rfl, rfl⟩
        rw [HPI.out]
        go_wp2
        go_roundw
        case rel =>
          refine ⟨k + 1, by omega, by go_num, hb.setCell (p := ⟨w.heap.size, k, none⟩) (Nat.le_refl _) _, ?_, ns, HNX.out, ?_⟩
          · rw [← HFS.out]
            exact hp.set k _
          · exact ownsRow_setCell_below hown (a := ⟨w.heap.size, k, none⟩) (by show w.heap.size < _; omega) _
        case measure => simp [intOf]; omega
      · have hadd : namesAdd ns b = ns ++ [b] := by unfold namesAdd; rw [if_neg hmem]
        have hd : decide (b ∈ ns) = false := by rw [decide_eq_false_iff_not]; exact hmem
        have hpl := placeI_add ns b
        rw [hadd] at HNX HFS hpl
        have HD := Lib.hid hd
        have HPI := Lib.hid hpl
        clear hadd hd hpl hmem
        go_wp2_with fail
        refine (slicesContains_any _ _ _ ns b _ _ _ rfl (by omega) hseg).mono ?_
        rintro e w1 ⟨rfl, rfl⟩
        rw [HD.out]
        go_wp2_with (at_builtin; refine wpList_append_own _ rfl _ _ 30 rfl (w.heap.size + 1) 3 i0 (.int .i64 0) 1 8 Try.underlying30 hi0 hz0 hz1 hz2 rfl (by decide) _ _ _ rfl (hown.alloc _) ⟨wr.heap.size, 0, none⟩ 1 1 [.int .i64 b] rfl rfl (one_new _ _ _) (by intro u hu; simp at hu; subst hu; rfl) (by unfold maxLen; omega) (by omega) (by simp; omega) ?_; intro v' w1 hown' hgrow _; have hown1 : w1.ownsRow (w.heap.size + 1) 3 1 v' (ns ++ [b]).length ((ns ++ [b]).map (Value.int .i64)) := (by simpa using hown'); clear hown'; have hb1 : Below w.heap.size w w1 := ((hb.alloc hsz _).grown hgrow (by simp; omega) (fun g' hg' => by have := (hown.lt g' hg').1; omega)); have hp1 := ((hp.alloc _).grown hgrow (by intro e; have := (hown.lt _ e).1; omega)); have hcp1 : w1.cell? ⟨w.heap.size, k, none⟩ = some (.int .i64 pv) := (hp1.cell HPV.out); have hfp1 := hp1.frozen k; obtain ⟨A2, c2, rfl⟩ := ownsRow_form hown1)
        have hseg1 := (ownsRow_own hown1).2.seg
        refine (slicesIndex_any _ _ _ (ns ++ [b]) b _ _ _ (by simp) (by omega) hseg1).mono ?_
        rintro e w2 ⟨rfl, rfl⟩
        rw [HPI.out]
        go_wp2
        go_roundw
        case rel =>
          refine ⟨k + 1, by omega, by go_num, hb1.setCell (p := ⟨w.heap.size, k, none⟩) (Nat.le_refl _) _, ?_, ns ++ [b], HNX.out, ?_⟩
          · rw [← HFS.out]
            exact hp1.set k _
          · rw [show ns.length + 1 = (ns ++ [b]).length by simp]
            exact ownsRow_setCell_below hown1 (a := ⟨w.heap.size, k, none⟩) (by show w.heap.size < _; omega) _
        case measure => simp [intOf]; omega
    · obtain rfl : k = n := by omega
      have he : (namedL bs).take k ++ List.replicate (k - k) 0 = namedL bs := by
        rw [Nat.sub_self, List.replicate_zero, List.append_nil, ← HNL.out, List.take_length]
      rw [he] at hp
      clear he
      go_wp2
      go_ret
      exact ⟨rfl, hp.own (Nat.le_refl _) hp.lt, hb⟩
end Go.Proofs.Ytkconbcmbpmghab

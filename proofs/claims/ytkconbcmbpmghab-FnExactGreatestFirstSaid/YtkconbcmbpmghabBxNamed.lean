/-
  The specification tells boxes in the order of their first things.
  Conditions: at most nine boxes.
-/
import Derived.Test.YtkconbcmbpmghabRenumber
import Derived.Test.YtkconbcmbpmghabAppendB
namespace Go.Proofs.Ytkconbcmbpmghab
set_option linter.unusedVariables false
open Go.RowKit

theorem place_hit {ns : List Int} (h : ns.Nodup) {q : Nat} {b : Int} (hq : ns[q]? = some b) : placeI (ns.take (q + 1)) b = (q : Int) := by
  refine placeI_hit (by rw [List.getElem?_take, if_pos (by omega)]; exact hq) fun j hj he => ?_
  rw [List.getElem?_take, if_pos (by omega)] at he
  have h1 := idx_only h hq
  have h2 := idx_le he
  omega

theorem place_skip {ns : List Int} {q : Nat} {b u : Int} (hq : ns[q]? = some u) (hu : u ≠ b) : placeI (ns.take (q + 1)) b = placeI (ns.take q) b := by
  rw [take_snoc hq]
  unfold placeI
  by_cases hm : b ∈ ns.take q
  · rw [if_pos (List.mem_append_left _ hm), if_pos hm, List.idxOf_append, if_pos hm]
  · rw [if_neg hm, if_neg]
    intro h
    rcases List.mem_append.1 h with h | h
    · exact hm h
    · exact hu (List.mem_singleton.1 h).symm

theorem placeI_bd (ns : List Int) (b : Int) : -1 ≤ placeI ns b ∧ placeI ns b ≤ (ns.length : Int) := by
  unfold placeI
  split
  · have := List.idxOf_le_length (a := b) (l := ns)
    omega
  · omega

theorem one_cellN {w : World} (v : Value) (T : Nat) : (w.alloc (.cells #[v] T)).cell? ⟨w.heap.size, 0, none⟩ = some v := cell_of (new_at w _ rfl) 0

theorem apart_out {v x v' : Value} {N M : Nat} (h : v.ownBlock = none ∨ v.ownBlock ≠ x.ownBlock) (hv : v'.ownBlock = x.ownBlock ∨ v'.ownBlock = some M) (hl : ∀ g, v.ownBlock = some g → g < N) (hNM : N ≤ M) :
    v.ownBlock = none ∨ v.ownBlock ≠ v'.ownBlock := by
  rcases hv with hv | hv
  · rw [hv]
    exact h
  · refine .inr fun e => ?_
    have := hl M (e.trans hv)
    omega

theorem apart_in {v x v' : Value} {N M : Nat} (h : v.ownBlock = none ∨ v.ownBlock ≠ x.ownBlock) (hv : v'.ownBlock = v.ownBlock ∨ v'.ownBlock = some M) (hl : ∀ g, x.ownBlock = some g → g < N) (hNM : N ≤ M) :
    v'.ownBlock = none ∨ v'.ownBlock ≠ x.ownBlock := by
  rcases hv with hv | hv
  · rw [hv]
    exact h
  · refine .inr fun e => ?_
    have := hl M (e.symm.trans hv)
    omega

theorem apart_symm {v x : Value} (h : v.ownBlock = none ∨ v.ownBlock ≠ x.ownBlock) : x.ownBlock = none ∨ x.ownBlock ≠ v.ownBlock := by
  rcases h with h | h
  · by_cases hx : x.ownBlock = none
    · exact .inl hx
    · exact .inr fun e => hx (e.trans h)
  · exact .inr fun e => h e.symm

set_option maxHeartbeats 2000000 in
set_option maxRecDepth 100000 in
theorem bxNamed_any (A : Option Addr) (n c : Nat) (bs : List Int) (lo hi : Nat) (w : World) (hn : bs.length = n) (hn9 : n ≤ 9) (hs : Seg w lo hi A bs) (hB : hi ≤ w.heap.size) :
    Calls Try.prog 64 #[.slice A n c] w fun e w' => ∃ A' c', e = .returned (.slice A' n c') ∧ Own w' w.heap.size w'.heap.size A' (namedL bs) ∧ Below w.heap.size w w' := by
  obtain ⟨i0, hi0, hz0, hz1, hz2⟩ := info_parts int_info
  have HN := Lib.hid hn
  have HNL := Lib.hid ((named_length bs).trans hn)
  clear hn
  go_enter Try.func64, Try.ntmps64
  go_wp2
  go_loopw [3, 4, 12] (fun v x i wr => ∃ k : Nat, k ≤ n ∧ i = .int .i64 k ∧ Below w.heap.size w wr ∧ (∃ ns, namesL (bs.take k) = ns ∧ wr.ownsRow w.heap.size 3 1 v ns.length (ns.map (Value.int .i64))) ∧
      (∃ os, (namedL bs).take k = os ∧ wr.ownsRow w.heap.size 3 1 x os.length (os.map (Value.int .i64))) ∧ (v.ownBlock = none ∨ v.ownBlock ≠ x.ownBlock)) (fun _ _ i _ => n - (intOf i).toNat)
  case atStart => exact ⟨0, Nat.zero_le _, rfl, Below.refl _ _, ⟨[], rfl, World.ownsRow_nil _ _ _ _⟩, ⟨[], rfl, World.ownsRow_nil _ _ _ _⟩, .inl rfl⟩
  case round =>
    obtain ⟨k, hk, rfl, hb, ⟨ns, hns, hown⟩, ⟨os, hos, howo⟩, hne⟩ := hrel
    have hsz := hb.size
    have hnl : ns.length ≤ 9 := by
      have := names_length (bs.take k)
      rw [hns, List.length_take] at this
      omega
    have hol : os.length = k := by
      rw [← hos, List.length_take, HNL.out]
      omega
    have hnd : ns.Nodup := hns ▸ names_nodup _
    have hob : os.length ≤ 1048576 := by omega
    have HNS := Lib.hid hns
    have HOS := Lib.hid hos
    have HND := Lib.hid hnd
    have HOL := Lib.hid hol
    clear hns hos hnd
    obtain ⟨A', c', rfl⟩ := ownsRow_form hown
    obtain ⟨A2, c2, rfl⟩ := ownsRow_form howo
    have hseg := (ownsRow_own hown).2.seg
    by_cases hlt : k < n
    · obtain ⟨bo, oo, b, rfl, _, hbo, hbv, hco⟩ := hs.at_ (k := k) (by rw [HN.out]; exact hlt)
      have hcow : wr.cell? ⟨bo, oo + k, none⟩ = some (.int .i64 b) := (hb.cell (by exact Nat.lt_of_lt_of_le hbo hB)).trans hco
      have hnx := named_at hbv
      rw [HNS.out] at hnx
      have hnsx : namesL (bs.take (k + 1)) = namesAdd ns b := by rw [take_snoc hbv, names_snoc, HNS.out]
      have hosx : (namedL bs).take (k + 1) = os ++ [(((namesAdd ns b).idxOf b : Nat) : Int)] := by rw [take_snoc hnx, HOS.out]
      have HNX := Lib.hid hnsx
      have HOX := Lib.hid hosx
      clear hnx hnsx hosx hbv hco hol
      go_wp2
      go_loop [7, 18] (fun at' j => ∃ q : Nat, q ≤ ns.length ∧ j = .int .i64 q ∧ at' = .int .i64 (placeI (ns.take q) b)) (fun _ j => ns.length - (intOf j).toNat)
      case atStart => exact ⟨0, Nat.zero_le _, rfl, rfl⟩
      case round =>
        obtain ⟨q, hq, rfl, rfl⟩ := hrel
        by_cases hql : q < ns.length
        · obtain ⟨bl, ol, l, hA, _, _, hl, hcl⟩ := hseg.at_ (k := q) hql
          subst hA
          by_cases hlb : l = b
          · subst hlb
            have HF := Lib.hid (place_hit HND.out hl)
            clear hl
            generalize placeI (ns.take q) l = f
            go_wp2
            go_round
            case rel => exact ⟨q + 1, by omega, by go_num, by rw [HF.out]⟩
            case measure => simp [intOf]; omega
          · have HF := Lib.hid (place_skip hl hlb)
            clear hl
            obtain ⟨f, hf⟩ : ∃ f, f = placeI (ns.take q) b := ⟨_, rfl⟩
            rw [← hf] at HF ⊢
            clear hf
            go_wp2
            go_round
            case rel => exact ⟨q + 1, by omega, by go_num, by rw [HF.out]⟩
            case measure => simp [intOf]; omega
        · obtain rfl : q = ns.length := by omega
          clear hq hql
          rw [List.take_length]
          by_cases hmem : b ∈ ns
          · have hadd : namesAdd ns b = ns := by unfold namesAdd; rw [if_pos hmem]
            have hpl := placeI_add ns b
            rw [hadd] at HNX HOX hpl
            obtain ⟨f, hf⟩ : ∃ f : Nat, ns.idxOf b = f := ⟨_, rfl⟩
            rw [hf] at HOX hpl
            have HPI := Lib.hid hpl
            rw [hpl]
            clear hadd hpl hmem hf
            go_wp2_with (at_builtin; refine wpList_append_ownB _ rfl _ _ 30 rfl w.heap.size 3 i0 Try.underlying30 hi0 hz0 hz1 hz2 _ _ _ rfl (howo.alloc _) wr.heap.size 1 (.int .i64 (f : Int)) rfl (one_cellN _ _) rfl (by omega) (by simp; omega) ?_; intro v' w1 hown' hgrow hv')
            go_roundw
            case rel =>
              refine ⟨k + 1, by omega, by go_num, (hb.alloc hsz _).grown hgrow (by simp; omega) (fun g hg => (howo.lt g hg).1), ⟨ns, HNX.out, (hown.alloc _).kept hgrow hne⟩, ⟨os ++ [(f : Int)], HOX.out, by simpa using hown'⟩, ?_⟩
              exact apart_out hne hv' (fun g hg => (hown.lt g hg).2) (by simp)
            case measure => simp [intOf]; omega
          · have hadd : namesAdd ns b = ns ++ [b] := by unfold namesAdd; rw [if_neg hmem]
            have hpl : placeI ns b = -1 := by unfold placeI; rw [if_neg hmem]
            have hix : (ns ++ [b]).idxOf b = ns.length := by rw [List.idxOf_append, if_neg hmem]; simp
            rw [hadd] at HNX HOX
            rw [hix] at HOX
            rw [hpl]
            clear hadd hpl hmem hix
            have hnl2 : ns.length ≤ 1048576 := by omega
            go_wp2_with (at_builtin; first | (refine wpList_append_ownB _ rfl _ _ 30 rfl w.heap.size 3 i0 Try.underlying30 hi0 hz0 hz1 hz2 _ _ _ rfl (hown.alloc _) wr.heap.size 1 (.int .i64 b) rfl (one_cellN _ _) rfl hnl2 (by simp; omega) ?_; intro v' w1 hown' hgrow hv'; have hsz1 := hgrow.size; have hbw1 : Below w.heap.size w w1 := (hb.alloc hsz _).grown hgrow (by simp; omega) (fun g hg => (hown.lt g hg).1); have howo1 := (howo.alloc _).kept hgrow (apart_symm hne); have hne1 := apart_in hne hv' (fun g hg => (howo.lt g hg).2) (by simp); have hown1 := hown'; clear hown') | (refine wpList_append_ownB _ rfl _ _ 30 rfl w.heap.size 3 i0 Try.underlying30 hi0 hz0 hz1 hz2 _ _ _ rfl (howo1.alloc _) w1.heap.size 1 (.int .i64 (ns.length : Int)) rfl (one_cellN _ _) rfl hob (by have := hbw1.size; simp; omega) ?_; intro v2 w2 hown2 hgrow2 hv2))
            go_roundw
            case rel =>
              refine ⟨k + 1, by omega, by go_num, (hbw1.alloc hbw1.size _).grown hgrow2 (by have := hbw1.size; simp; omega) (fun g hg => (howo1.lt g hg).1), ⟨ns ++ [b], HNX.out, ?_⟩, ⟨os ++ [(ns.length : Int)], HOX.out, by simpa using hown2⟩, ?_⟩
              · have h3 := (hown1.alloc (.cells #[.int .i64 (ns.length : Int)] 3)).kept hgrow2 hne1
                simpa using h3
              · exact apart_out hne1 hv2 (fun g hg => (hown1.lt g hg).2) (by simp)
            case measure => simp [intOf]; omega
    · obtain rfl : k = n := by omega
      have he : (namedL bs).take k = namedL bs := by rw [← HNL.out, List.take_length]
      have HE := Lib.hid (he.symm.trans HOS.out)
      obtain rfl : os.length = k := HOL.out
      go_wp2
      go_ret
      exact ⟨A2, ⟨c2, rfl⟩, by rw [HE.out]; exact (ownsRow_own howo).2, hb⟩
end Go.Proofs.Ytkconbcmbpmghab

/-
  The written program's places of boxes.
  Conditions: none.
-/
import Derived.Test.YtgcljhgpihpfgaaVan
import Derived.Test.YtgcljhgpihpfgaaYd
import Derived.Test.YtgcljhgpihpfgaaPlR
import Derived.Test.YtgcljhgpihpfgaaSomeN
namespace Go.Proofs.Ytgcljhgpihpfgaa
set_option linter.unusedVariables false
open Go.RowKit

/-- The number in a cell. -/
def cellN (w : World) (g k : Nat) : Nat := match w.cell? ⟨g, k, none⟩ with | some v => (intOf v).toNat | none => 0
theorem cellN_of {w : World} {g k j : Nat} (h : w.cell? ⟨g, k, none⟩ = some (.int .i64 (j : Int))) : cellN w g k = j := by
  unfold cellN; rw [h]; simp [intOf]

/-- Boxes, places and the yard, each in memory of its own. -/
structure PlW (w0 wr : World) (gB NB P g7 : Nat) (L ys tops : List Int) (A : Option Addr) (m d : Nat) : Prop where
  below : Below w0.heap.size w0 wr
  ord1 : w0.heap.size ≤ gB
  ord2 : gB < P
  ord3 : P < g7
  boxes : RowB wr gB 5 NB L
  yard : Yard wr P (g7 + 1) tops A m d
  row : Arr wr g7 3 ys

section
variable {w0 wr w' : World} {gB NB P g7 m d m' d' : Nat} {L ys tops tops' : List Int} {A A' : Option Addr}
theorem PlW.set (h : PlW w0 wr gB NB P g7 L ys tops A m d) (k : Nat) (u : Int) : PlW w0 (wr.setCell ⟨g7, k, none⟩ (.int .i64 u)) gB NB P g7 L (ys.set k u) tops A m d := by
  have h1 := h.ord1; have h2 := h.ord2; have h3 := h.ord3
  refine ⟨h.below.setCell (by show _ ≤ g7; omega) _, h1, h2, h3, h.boxes.keep (set_far _ (by show gB ≠ g7; omega) _), ⟨?_, ?_, h.yard.apart⟩, h.row.set k u⟩
  · exact (set_far _ (by show P ≠ g7; omega) _).trans h.yard.self
  · exact ownsRow_setCell_other h.yard.row (fun e => by have := (h.yard.row.lt g7 e).1; omega) _
theorem PlW.put (h : PlW w0 wr gB NB P g7 L ys tops A m d) (hy : Yard w' P (g7 + 1) tops' A' m' d') (ho : Only (fun b => b = P ∨ A = some ⟨b, 0, none⟩) wr w') : PlW w0 w' gB NB P g7 L ys tops' A' m' d' := by
  have h1 := h.ord1; have h2 := h.ord2; have h3 := h.ord3
  have hA : ∀ b, A = some ⟨b, 0, none⟩ → g7 + 1 ≤ b := fun b e => (h.yard.row.lt b (by rw [e]; rfl)).1
  have hb0 : Below w0.heap.size wr w' := ho.below h.below.size (fun k hk => by rcases hk with e | e; omega; have := hA k e; omega)
  refine ⟨h.below.trans hb0, h1, h2, h3, h.boxes.keep (ho.block gB h.boxes.lt (fun hk => by rcases hk with e | e; omega; have := hA gB e; omega)), hy, h.row.keep (ho.block g7 h.row.lt (fun hk => by rcases hk with e | e; omega; have := hA g7 e; omega))⟩
end

theorem can_lt {tops : List Int} {c : Int} {j : Nat} (h : j < fitP tops c) : canP tops (j : Int) c = false := by
  have hl := fitP_le tops c
  obtain ⟨u, hu⟩ : ∃ u, tops[j]? = some u := ⟨_, List.getElem?_eq_getElem (by omega)⟩
  have h2 := fitP_lt h hu
  rw [canP, decide_eq_false (show ¬ (j : Int) = (tops.length : Int) by omega), Int.toNat_natCast, show tops.getD j 0 = u by simp [List.getD, hu], decide_eq_false (by omega)]
  simp
theorem can_at (tops : List Int) (c : Int) : canP tops ((fitP tops c : Nat) : Int) c = true := by
  have hl := fitP_le tops c
  rw [canP, inB_true.2 (by omega), Int.toNat_natCast]
  by_cases e : fitP tops c = tops.length
  · rw [decide_eq_true (by omega)]; rfl
  · obtain ⟨u, hu⟩ : ∃ u, tops[fitP tops c]? = some u := ⟨_, List.getElem?_eq_getElem (by omega)⟩
    have h2 := fitP_at hu
    rw [show tops.getD (fitP tops c) 0 = u by simp [List.getD, hu], decide_eq_true h2]
    simp
/-- The places so far, the one in work, and zeros. -/
def rowP (ps : List Int) (n : Nat) : List Int := ps ++ List.replicate (n - ps.length) 0
theorem rowP_len {ps : List Int} {n : Nat} (h : ps.length ≤ n) : (rowP ps n).length = n := by simp [rowP]; omega
theorem rowP_set {ps : List Int} {n : Nat} (f : Int) (h : ps.length < n) : (rowP ps n).set ps.length f = rowP (ps ++ [f]) n := by
  obtain ⟨r, hr⟩ : ∃ r, n - ps.length = r + 1 := ⟨n - ps.length - 1, by omega⟩
  unfold rowP
  rw [hr, List.set_append_right _ _ (Nat.le_refl _), Nat.sub_self, List.length_append, List.length_singleton, show n - (ps.length + 1) = r by omega]
  simp [List.replicate_succ]
theorem set_set (ys : List Int) (k : Nat) (a b : Int) : (ys.set k a).set k b = ys.set k b := by simp

theorem rowP_zero {ps : List Int} {n : Nat} (h : ps.length < n) : (rowP ps n).set ps.length 0 = rowP ps n := by
  rw [rowP_set 0 h]
  obtain ⟨r, hr⟩ : ∃ r, n - ps.length = r + 1 := ⟨n - ps.length - 1, by omega⟩
  unfold rowP
  rw [hr, List.length_append, List.length_singleton, show n - (ps.length + 1) = r by omega]
  simp [List.replicate_succ]
theorem rowP_here {ps : List Int} {n : Nat} (j : Int) (h : ps.length < n) : ((rowP ps n).set ps.length j)[ps.length]? = some j := List.getElem?_set_self (by rw [rowP_len (by omega)]; exact h)

set_option maxHeartbeats 4000000 in
theorem places_any (s : ByteArray) (w : World) (hq : ldB s.data.toList = true) :
    Calls Try.prog 18 #[.string s] w (RetL true (plcS (u8 s.data.toList)).2 w) := by
  have hs : s.size ≤ 12 := by have := (ldB_true.1 hq).1; rw [byte_len] at this; exact this
  have HV := Lib.hid (vanOf_yes s w hq)
  obtain ⟨L, hL⟩ : ∃ L, u8 s.data.toList = L := ⟨_, rfl⟩
  have hLl : L.length = s.size := by rw [← hL, u8_len, byte_len]
  rw [hL] at HV ⊢
  have hmk := fun W : World => run_make_row' 26 3 (.int .i64 0) 8 Try.underlying26 int_info rfl .i64 .i64 s.size (by omega) (by omega) W
  clear hq hL
  go_enter Try.func18, Try.ntmps18
  go_wp2_with fail
  refine HV.out.mono ?_
  rintro e w1 ⟨g, N, cap, rfl, hb1, hgb, hrow, hcap⟩
  have hs1 := hb1.size
  have hgl := hrow.lt
  have hp0 : PlW w (((w1.alloc (.cells #[.slice (some ⟨g, 0, none⟩) s.size cap] 45)).alloc (.cells #[.slice none 0 0] 49)).alloc (.cells (madeCells #[.int .i64 0] s.size) 3)) g N (w1.heap.size + 1) (w1.heap.size + 1 + 1) L (rowP (plcS (L.take 0)).2 s.size) (plcS (L.take 0)).1 none 0 0 := by
    refine ⟨((hb1.alloc hs1 _).alloc (by simp; omega) _).alloc (by simp; omega) _, hgb, by omega, by omega, ?_, ⟨?_, World.ownsRow_nil _ _ _ _, fun g e => by cases e⟩, ?_⟩
    · exact ((hrow.keep (alloc_old w1 hgl _)).keep (alloc_old _ (by simp; omega) _)).keep (alloc_old _ (by simp; omega) _)
    · rw [alloc_old _ (by simp)]; exact new_at _ _ (by simp)
    · have h := arr_new ((w1.alloc (.cells #[.slice (some ⟨g, 0, none⟩) s.size cap] 45)).alloc (.cells #[.slice none 0 0] 49)) 3 s.size
      have e : rowP (plcS (L.take 0)).2 s.size = List.replicate s.size 0 := by simp [rowP, plcS]
      rw [e]
      simpa using h
  have HP0 := Lib.hid hp0
  clear hp0 hb1 hrow hgl hs1 hgb
  go_wp2
  clear hmk
  generalize w1.heap.size + 1 = P at HP0 ⊢
  go_loopw [24] (fun i wr => ∃ (k : Nat) (A : Option Addr) (m d : Nat), k ≤ s.size ∧ i = .int .i64 (k : Int) ∧ PlW w wr g N P (P + 1) L (rowP (plcS (L.take k)).2 s.size) (plcS (L.take k)).1 A m d) (fun i _ => s.size - (intOf i).toNat)
  case atStart => exact ⟨0, none, 0, 0, by omega, rfl, HP0.out⟩
  case round =>
    obtain ⟨k, A, m, d, hk, rfl, hp⟩ := hrel
    by_cases hlt : k < s.size
    · obtain ⟨cc, hcc⟩ : ∃ cc, L[k]? = some cc := ⟨_, List.getElem?_eq_getElem (by omega)⟩
      have hst := plc_take hcc
      have hml := (plcS_len (L.take k)).2
      have hpl := (plcS_len (L.take k)).1
      rw [List.length_take] at hml hpl
      have qb := hp.boxes.cell hcc
      obtain ⟨tops, htops⟩ : ∃ t, (plcS (L.take k)).1 = t := ⟨_, rfl⟩
      obtain ⟨ps, hps⟩ : ∃ t, (plcS (L.take k)).2 = t := ⟨_, rfl⟩
      rw [htops, hps] at hst hp
      rw [htops] at hml
      rw [hps] at hpl
      have hm := hp.yard.row.len
      obtain ⟨f, hf⟩ : ∃ f, fitP tops cc = f := ⟨_, rfl⟩
      have hfl := fitP_le tops cc
      rw [hf] at hst hfl
      have hkp : ps.length = k := by omega
      have hps0 : (rowP ps s.size).set k ((0 : Nat) : Int) = rowP ps s.size := by rw [← hkp]; exact rowP_zero (by omega)
      have hpsf : (rowP ps s.size).set k (f : Int) = rowP (ps ++ [(f : Int)]) s.size := by rw [← hkp]; exact rowP_set _ (by omega)
      have hhere : ∀ j : Int, ((rowP ps s.size).set k j)[k]? = some j := fun j => by rw [← hkp]; exact rowP_here j (by omega)
      have HST := Lib.hid hst
      have HF := Lib.hid hf
      have HPP := Lib.hid hp
      have HZ := Lib.hid hps0
      have HFF := Lib.hid hpsf
      have HH := Lib.hid hhere
      have hki : (k : Int) < (s.size : Int) := by omega
      have hm12 : m ≤ 12 := by omega
      have hfm : f ≤ m := by omega
      clear hst hf hp hps0 hpsf hhere hcc htops hps hml hpl hkp hfl hm
      go_wp2
      go_loopw [] (fun wr2 => ∃ j : Nat, j ≤ f ∧ PlW w wr2 g N P (P + 1) L ((rowP ps s.size).set k (j : Int)) tops A m d) (fun wr2 => f - cellN wr2 (P + 1) k)
      case atStart => exact ⟨0, Nat.zero_le _, by rw [HZ.out]; exact HPP.out⟩
      case round =>
        obtain ⟨j, hj, hp⟩ := hrel
        have q7 := hp.row.cell (HH.out (j : Int))
        have f7 := hp.row.frozen k
        have HP := Lib.hid hp
        by_cases hjf : j < f
        · have hc := canTake_any P (P + 1 + 1) tops A m d (j : Int) cc _ hp.yard
          rw [can_lt (by rw [HF.out]; exact hjf)] at hc
          have HC := Lib.hid hc
          have hme := cellN_of q7
          have hm2 := cellN_of (((hp.set k ((j : Int) + 1)).row).cell (k := k) (u := ((j + 1 : Nat) : Int)) (by rw [set_set]; push_cast; exact HH.out _))
          have HM1 := Lib.hid hme
          have HM2 := Lib.hid hm2
          clear hp hc hme hm2
          go_wp2_with fail
          refine HC.out.mono ?_
          rintro e w2 ⟨rfl, rfl⟩
          go_wp2
          go_roundw
          case rel =>
            refine ⟨j + 1, by omega, ?_⟩
            have h2 := HP.out.set k ((j : Int) + 1)
            rw [set_set] at h2
            push_cast
            exact h2
          case measure => rw [HM1.out, HM2.out]; omega
        · obtain rfl : j = f := by omega
          have hc := canTake_any P (P + 1 + 1) tops A m d (j : Int) cc _ hp.yard
          have hcan := can_at tops cc
          rw [HF.out] at hcan
          rw [hcan] at hc
          have HC := Lib.hid hc
          have HPU := Lib.hid (put_any P (P + 1 + 1) tops A m d j cc _ hp.yard hfm hm12 (by have := hp.row.lt; omega))
          clear hp hc hcan
          go_wp2_with fail
          refine HC.out.mono ?_
          rintro e w2 ⟨rfl, rfl⟩
          go_wp2_with fail
          refine HPU.out.mono ?_
          rintro e w3 ⟨rfl, A', m', d', hy, ho, _⟩
          have HP3 := Lib.hid (HP.out.put hy ho)
          clear hy ho
          go_wp2
          go_roundw
          case rel => exact ⟨k + 1, A', m', d', by omega, by go_num, by rw [HST.out, ← HFF.out]; exact HP3.out⟩
          case measure => simp [intOf]; omega
    · obtain rfl : k = s.size := by omega
      rw [List.take_of_length_le (by omega)] at hp
      have hlen := (plcS_len L).1
      have e : rowP (plcS L).2 s.size = (plcS L).2 := by simp [rowP, hlen, hLl]
      rw [e] at hp
      have HP := Lib.hid hp
      clear hp e
      go_wp2
      go_ret2
      exact ⟨some ⟨P + 1, 0, none⟩, s.size, s.size, rfl, by omega, HP.out.row.own (by have := HP.out.ord1; have := HP.out.ord2; omega) HP.out.row.lt, HP.out.below⟩
end Go.Proofs.Ytgcljhgpihpfgaa

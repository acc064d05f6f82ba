/-
  The given program's list of all orders.
  Conditions: at most seven numbers.
-/
import Derived.Test.YtgcljhgpihpfgacOrdP
import Derived.Test.YtgcljhgpihpfgacRws
import Derived.Test.YtgcljhgpihpfgacHasM
import Derived.Test.YtgcljhgpihpfgacL1Own
import Derived.Test.YtgcljhgpihpfgacAppendB
import Derived.Test.YtgcljhgpihpfgacSegT
import Derived.Deep.LoopGhost
import Derived.Deep.RegionHeld3
namespace Go.Proofs.Ytgcljhgpihpfgac
set_option linter.unusedVariables false
open Go.RowKit

theorem rowsT_info : (Try.prog.info? 22).map (fun i => (i.zero, i.size, i.bytes)) = some (some (.slice none 0 0), 1, 24) := by kernel_rfl
/-- Lists of numbers are answered, in new memory. -/
def RetRs (xss : List (List Int)) (w : World) (e : Ending) (w' : World) : Prop :=
  ∃ A n c vs, e = .returned (.slice A n c) ∧ xss.length = n ∧ Rws w' w.heap.size (.slice A n c) xss vs ∧ Below w.heap.size w w'
theorem rws_one {w : World} {base m c : Nat} {B : Option Addr} {xs : List Int} (hb : base ≤ w.heap.size) (hm : xs.length = m) (h : Own w base w.heap.size B xs) :
    Rws (w.alloc (.cells #[.slice B m c] 22)) base (.slice (some ⟨w.heap.size, 0, none⟩) 1 1) [xs] [.slice B m c] := by
  have hbb := (Below.refl w.heap.size w).alloc (Nat.le_refl _) (.cells #[.slice B m c] 22)
  refine ⟨⟨rfl, .inr ⟨w.heap.size, 1, _, rfl, hb, new_at w _ rfl, Nat.le_refl _, by unfold maxLen; omega, rfl, rfl⟩⟩, rfl, fun j ys hj => ?_⟩
  have hj0 : j = 0 := by
    have := (List.getElem?_eq_some_iff.1 hj).1
    simp at this
    exact this
  subst hj0
  obtain rfl : xs = ys := by simpa using hj
  refine ⟨B, c, by rw [hm]; rfl, (h.below hbb (Nat.le_refl _)).more (Nat.le_refl _) (by simp), fun hx g hB e => ?_⟩
  have h1 := (h.lt_ hx hB).2
  injection e with e
  have h2 : w.heap.size = g := e
  omega
theorem tail_segO {w : World} {lo hi g off j cap n : Nat} {xs : List Int} (h : Seg w lo hi (some ⟨g, off, none⟩) xs) (hn : xs.length = n) (hj : j ≤ n) (hc : n ≤ cap) :
    ∃ ad : Addr, (if cap = j then some (⟨g, off, none⟩ : Addr) else some ⟨g, off + j, none⟩) = some ad ∧ Seg w lo hi (some ad) (xs.drop j) := by
  by_cases e : cap = j
  · rw [if_pos e]
    exact ⟨_, rfl, .inl (List.drop_of_length_le (by omega))⟩
  · rw [if_neg e]
    exact ⟨_, rfl, h.dropI j⟩
theorem one_cellO {w : World} (v : Value) (T : Nat) : (w.alloc (.cells #[v] T)).cell? ⟨w.heap.size, 0, none⟩ = some v := cell_of (new_at w _ rfl) 0

theorem Rows1.both {w w' : World} {base : Nat} {row ob : Option Nat} {xss : List (List Int)} {vs : List Value} (h : Rows1 w base row xss vs) (k : Rows1 w base ob xss vs) (hg : w.grownBy w' row) : Rows1 w' base ob xss vs := by
  refine ⟨h.1, fun j xs hj => ?_⟩
  obtain ⟨B, c, e, ho, hf⟩ := h.2 j xs hj
  obtain ⟨B', c', e', ho', hf'⟩ := k.2 j xs hj
  rw [e] at e'
  injection e' with e'
  injection e' with e1 e2 e3
  subst e1
  exact ⟨B, c, e, (ho.grownFar hg (Nat.le_refl _) hf).more (Nat.le_refl _) hg.size, hf'⟩

theorem step_append_rows {P : Program} (w : World) {ops : Array Oper} {o : Oper} {a : Act} {K : Act → World → Prop} {Q : Exit → Act → World → Prop} {E : Prop} (hgd : o.guard = none) (s x : Operand) (t : TypeId)
    (ho : o.op = .call { callee := .builtin .append, args := #[s, x], argTypes := #[t, t] })
    (base : Nat) (e : TypeId) (i : TypeInfo) (ht : P.underlying t = some (.slice e)) (hi : P.info? e = some i) (hz : i.zero = some (.slice none 0 0)) (hsize : i.size = 1) (hby : i.bytes = 24)
    (v : Value) (n : Nat) (xs : List Value) (hs : a.eval s = v) (hown : w.ownsRow base e 1 v n xs)
    (b2 : Nat) (v2 : Value) (m : Nat) (news : List Value) (hx : a.eval x = v2) (hown2 : w.ownsRow b2 e 1 v2 m news) (h1 : ∀ u ∈ news, u.oneCell' = true)
    (hlen : n + m ≤ 4194304) (hbase : base ≤ w.heap.size)
    (h : ∀ v' w', w'.ownsRow base e 1 v' (n + m) (xs ++ news) → w.grownBy w' v.ownBlock → (v'.ownBlock = v.ownBlock ∨ v'.ownBlock = some w.heap.size) → K (a.put o.dst v') w') :
    if Region.wanted o (yielded ops a.tmps) = true then Oper.wp P o a w K Q else E := by
  have hw : Region.wanted o (yielded ops a.tmps) = true := by simp [Region.wanted, hgd]
  rw [if_pos hw]
  have hnl : news.length = m := by have := hown2.1; omega
  rcases id hown2.2 with ⟨h0, hm⟩ | ⟨g, cap, cur, hv, hg, hb, hnc, _, hsz, htk⟩
  · subst hm
    have : news = [] := List.eq_nil_of_length_eq_zero hnl
    subst this
    have hrun := run_append_nothing (P := P) w base t o.type e i 1 ht hi v n xs hown 0
    unfold Oper.wp
    rw [h0] at hx
    simp [execOp, ho, resolve, invoke, builtin, hs, hx, hrun, Result.andThen]
    exact h v w (by simpa using hown) (World.grownBy.refl w _) (.inl rfl)
  · subst hv
    obtain ⟨v', w', hr, h2, h3, _, h5⟩ := run_append_own_at (P := P) w base t o.type e i (.slice none 0 0) 1 24 ht hi hz hsize hby rfl (by decide) v n xs hown ⟨g, 0, none⟩ m cap news (by omega) (hown2.cells (g := g) rfl) h1 (by unfold maxLen; omega) (by omega) hbase
    unfold Oper.wp execOp
    simp only [ho, resolve, invoke, builtin, Sem.run_bind, Sem.run_pure, Result.andThen_ok, List.map_toArray, List.map_cons, List.map_nil, hs, hx, hr]
    exact h v' w' h2 h3 h5

/-- The numbers used so far and the orders so far, apart. -/
structure Two (w : World) (base : Nat) (u : Value) (us : List Int) (v : Value) (xss : List (List Int)) (vs : List Value) : Prop where
  used : w.ownsRow base 3 1 u us.length (us.map (Value.int .i64))
  rows : Rws w base v xss vs
  far : Rows1 w base u.ownBlock xss vs
  ne : ∀ g, u.ownBlock = some g → v.ownBlock ≠ some g
theorem Two.below {w w' : World} {base : Nat} {u v : Value} {us : List Int} {xss : List (List Int)} {vs : List Value} (h : Two w base u us v xss vs) (hb : Below w.heap.size w w') : Two w' base u us v xss vs :=
  ⟨row_below h.used hb, h.rows.below hb, h.far.below hb, h.ne⟩
theorem Two.useApp {w w' : World} {base : Nat} {u u' v : Value} {us : List Int} {x : Int} {xss : List (List Int)} {vs : List Value} (h : Two w base u us v xss vs)
    (hown : w'.ownsRow base 3 1 u' (us.length + 1) (us.map (Value.int .i64) ++ [.int .i64 x])) (hg : w.grownBy w' u.ownBlock) (hloc : u'.ownBlock = u.ownBlock ∨ u'.ownBlock = some w.heap.size) : Two w' base u' (us ++ [x]) v xss vs := by
  refine ⟨by rw [List.length_append, List.map_append]; exact hown, ⟨h.rows.1.kept hg ?_, h.far.both h.rows.2 hg⟩, h.far.grown hg hloc, fun g hu hv => ?_⟩
  · cases e : v.ownBlock with
    | none => exact .inl rfl
    | some g => exact .inr fun e' => h.ne g e'.symm e
  · rcases hloc with e | e
    · exact h.ne g (by rw [← e]; exact hu) hv
    · rw [e] at hu
      injection hu with hu
      have := (h.rows.1.lt g hv).2
      omega
theorem Two.outApp {w w' : World} {base : Nat} {u v v' : Value} {us : List Int} {xss yss : List (List Int)} {vs ws : List Value} (h : Two w base u us v xss vs) (k1 : Rows1 w base v.ownBlock yss ws) (k2 : Rows1 w base u.ownBlock yss ws)
    (hown : w'.ownsRow base 22 1 v' (xss.length + yss.length) (vs ++ ws)) (hg : w.grownBy w' v.ownBlock) (hloc : v'.ownBlock = v.ownBlock ∨ v'.ownBlock = some w.heap.size) : Two w' base u us v' (xss ++ yss) (vs ++ ws) := by
  refine ⟨h.used.kept hg ?_, h.rows.app k1 hown hg hloc, (h.rows.2.app k1).both (h.far.app k2) hg, fun g hu hv => ?_⟩
  · cases e : u.ownBlock with
    | none => exact .inl rfl
    | some g => exact .inr fun e' => h.ne g e e'.symm
  · rcases hloc with e | e
    · exact h.ne g hu (by rw [← e]; exact hv)
    · rw [e] at hv
      injection hv with hv
      have := (h.used.lt g hu).2
      omega

set_option maxRecDepth 100000 in
set_option maxHeartbeats 8000000 in
theorem bxOrders_any : ∀ (f : Nat) (L beg : List Int) (A A2 : Option Addr) (m c c2 lo hi l1 h1 : Nat) (w : World), L.length = f → f ≤ 7 → beg.length = m → m + f ≤ 100 → f ≤ c2 → Seg w lo hi A beg → hi ≤ w.heap.size → Seg w l1 h1 A2 L → h1 ≤ w.heap.size →
    Calls Try.prog 43 #[.slice A m c, .slice A2 f c2] w (RetRs ((ordF f L).map fun l => beg ++ l) w)
  | 0, L, beg, A, A2, m, c, c2, lo, hi, l1, h1, w, hf, hf7, hm, hmf, hfc, hs, hB, hs2, hB2 => by
    have HM := Lib.hid hm
    have hL : L = [] := List.length_eq_zero_iff.1 hf
    subst hL
    clear hf hm
    go_enter Try.func43, Try.ntmps43
    go_wp2_with fail
    refine (l1Own_any A m c beg lo hi _ HM.out (by omega) hs hB).mono ?_
    rintro e w2 ⟨A4, c4, rfl, hown2, hb2⟩
    have HR2 := Lib.hid (rws_one (w := w2) (base := w.heap.size) (c := c4) hb2.size HM.out (ownsRow_own (w := w2) (ys := beg) (by rw [HM.out]; exact hown2)).2)
    have HB3 := Lib.hid (hb2.alloc hb2.size (.cells #[.slice A4 m c4] 22))
    clear hb2 hown2
    go_wp2
    go_ret
    exact ⟨_, _, _, _, rfl, by simp [ordF], by simpa [ordF] using HR2.out, HB3.out⟩
  | f + 1, L, beg, A, A2, m, c, c2, lo, hi, l1, h1, w, hf, hf7, hm, hmf, hfc, hs, hB, hs2, hB2 => by
    obtain ⟨i0, hi0, hz0, hz1, hz2⟩ := info_parts int_info
    obtain ⟨j0, hj0, hy0, hy1, hy2⟩ := info_parts rowsT_info
    have hlen := vals7_len L
    obtain ⟨U, hU⟩ : ∃ U, vals7 L = U := ⟨_, rfl⟩
    rw [hU] at hlen
    obtain ⟨g2, off, rfl⟩ : ∃ g off, A2 = some ⟨g, off, none⟩ := by
      rcases hs2 with h | ⟨b, off, e, _⟩
      · rw [h] at hf; simp at hf
      · exact ⟨b, off, e⟩
    have HM := Lib.hid hm
    have HF := Lib.hid hf
    have HU := Lib.hid hU
    have HIH := Lib.hid (bxOrders_any f)
    have hUl : U.length ≤ f + 1 := by omega
    have HALL := Lib.hid (kidsO_all f beg L (k := U.length) (by rw [hU]; exact Nat.le_refl _))
    have HFEW := Lib.hid (fun k => kidsO_few (f := f) (beg := beg) (L := L) (k := k) (by omega) (by omega))
    have hd0 : decide (((f + 1 : Nat) : Int) = 0) = false := decide_eq_false (by omega)
    have hb0 : (((f + 1 : Nat) : Int) == 0) = false := beq_eq_false_iff_ne.2 (by omega)
    clear hm hf hU hlen
    obtain ⟨n, hn⟩ : ∃ n, f + 1 = n := ⟨_, rfl⟩
    rw [hn] at hUl hd0 hb0 HF hfc hf7 hmf HALL ⊢
    have HNF := Lib.hid hn
    clear hn
    go_enter Try.func43, Try.ntmps43
    go_wp2
    go_loopg [5, 6] U.length (fun gk ov uv wx => ∃ k : Nat, k + gk = U.length ∧ ∃ vs, Two wx w.heap.size uv (U.take k) ov (kidsO f beg L k) vs ∧ Below w.heap.size w wx)
    case atStart => exact ⟨0, by omega, [], ⟨World.ownsRow_nil _ _ _ _, Rws.nil_ _ _, ⟨rfl, fun j xs hj => by simp [kidsO] at hj⟩, fun g e => by cases e⟩, Below.refl _ _⟩
    case round =>
      obtain ⟨k, hkg, vs, ht, hb⟩ := hrel
      obtain ⟨Au, cu, rfl⟩ := ownsRow_form ht.used
      have hkl : (U.take k).length = k := by rw [List.length_take]; omega
      obtain ⟨us, hus⟩ : ∃ us, U.take k = us := ⟨_, rfl⟩
      rw [hus] at ht hkl ⊢
      rw [hkl] at ht ⊢
      have HUS := Lib.hid hus
      have HKL := Lib.hid hkl
      have HT := Lib.hid ht
      have HB := Lib.hid hb
      have HSU := Lib.hid (ownsRow_own (ys := us) ht.used).2.seg
      have HS2 := Lib.hid (hs2.below hb hB2)
      have hsz := hb.size
      clear hus hkl ht hb
      obtain ⟨Bo, dd, rfl⟩ := HT.out.rows.form
      obtain ⟨no, hno⟩ : ∃ no, (kidsO f beg L k).length = no := ⟨_, rfl⟩
      rw [hno]
      rw [hno] at HT
      have HNO := Lib.hid hno
      clear hno
      go_wp2
      go_loopw [7, 19] (fun b i wx => ∃ q : Nat, q ≤ n ∧ i = .int .i64 (q : Int) ∧ (∃ bb : Int, b = .int .i64 bb ∧ Hid (BestAt L us q bb)) ∧ wx = wr) (fun _ i _ => n - (intOf i).toNat)
      case atStart => exact ⟨0, Nat.zero_le _, rfl, ⟨-1, rfl, Lib.hid (BestAt.zero _ _)⟩, rfl⟩
      case round =>
        obtain ⟨q, hq, rfl, ⟨bb, rfl, HBA⟩, rfl⟩ := hrel
        by_cases hlt : q < n
        · obtain ⟨b', off', u, e', _, _, hx, hc⟩ := HS2.out.at_ (k := q) (by rw [HF.out]; exact hlt)
          obtain ⟨rfl, rfl⟩ : g2 = b' ∧ off = off' := by injection e' with e'; injection e' with e1 e2; exact ⟨e1, e2⟩
          have HX := Lib.hid hx
          have hqn : (q : Int) < (n : Int) := by omega
          clear hx e'
          by_cases hu : u ∈ us
          · go_wp2_with fail
            refine (l1Has_any Au k cu us u w.heap.size _ _ HKL.out (by omega) HSU.out true (decide_eq_true hu)).mono ?_
            rintro e w' ⟨rfl, rfl⟩
            go_wp2
            go_roundw
            case rel => exact ⟨q + 1, by omega, by go_num, ⟨bb, rfl, Lib.hid (HBA.out.skip HX.out hu)⟩, trivial⟩
            case measure => simp [intOf]; omega
          · rcases id HBA.out with ⟨e0, _⟩ | ⟨j, x, e0, hj, hjx, _⟩
            · subst e0
              go_wp2_with fail
              refine (l1Has_any Au k cu us u w.heap.size _ _ HKL.out (by omega) HSU.out false (decide_eq_false hu)).mono ?_
              rintro e w' ⟨rfl, rfl⟩
              go_wp2
              go_roundw
              case rel => exact ⟨q + 1, by omega, by go_num, ⟨(q : Int), rfl, Lib.hid (HBA.out.first HX.out hu)⟩, trivial⟩
              case measure => simp [intOf]; omega
            · subst e0
              have HJX := Lib.hid hjx
              obtain ⟨b', off', x', e', _, _, hx', hc'⟩ := HS2.out.at_ (k := j) (by rw [HF.out]; omega)
              obtain ⟨rfl, rfl⟩ : g2 = b' ∧ off = off' := by injection e' with e'; injection e' with e1 e2; exact ⟨e1, e2⟩
              obtain rfl : x = x' := by have := hjx.symm.trans hx'; injection this
              have dj : decide ((j : Int) < 0) = false := decide_eq_false (by omega)
              have hjn : (j : Int) < (n : Int) := by omega
              clear hx' e' hjx
              by_cases hux : u < x
              · have dux : decide (u < x) = true := decide_eq_true hux
                go_wp2_with fail
                refine (l1Has_any Au k cu us u w.heap.size _ _ HKL.out (by omega) HSU.out false (decide_eq_false hu)).mono ?_
                rintro e w' ⟨rfl, rfl⟩
                go_wp2
                go_roundw
                case rel => exact ⟨q + 1, by omega, by go_num, ⟨(q : Int), rfl, Lib.hid (HBA.out.less HX.out hu HJX.out hux)⟩, trivial⟩
                case measure => simp [intOf]; omega
              · have dux : decide (u < x) = false := decide_eq_false hux
                go_wp2_with fail
                refine (l1Has_any Au k cu us u w.heap.size _ _ HKL.out (by omega) HSU.out false (decide_eq_false hu)).mono ?_
                rintro e w' ⟨rfl, rfl⟩
                go_wp2
                go_roundw
                case rel => exact ⟨q + 1, by omega, by go_num, ⟨(j : Int), rfl, Lib.hid (HBA.out.stay HX.out HJX.out (by omega))⟩, trivial⟩
                case measure => simp [intOf]; omega
        · obtain rfl : n = q := by omega
          cases gk with
          | zero =>
            have hk : k = U.length := by omega
            have hba := HBA.out
            rw [← HUS.out, ← HU.out] at hba
            have hbb := hba.none_ (by rw [HU.out]; omega)
            subst hbb
            subst hk
            clear hba
            go_wp2
            go_ret
            exact ⟨Bo, no, dd, vs, rfl, by rw [← HALL.out]; exact HNO.out, by rw [← HALL.out]; exact HT.out.rows, HB.out⟩
          | succ gg =>
            obtain ⟨v, hv⟩ : ∃ v, U[k]? = some v := ⟨_, List.getElem?_eq_getElem (by omega)⟩
            have hba := HBA.out
            rw [← HUS.out, ← HU.out] at hba
            obtain ⟨j, rfl, hjv, hjn⟩ := hba.end_ HF.out.symm (by rw [HU.out]; exact hv)
            have hjlt : j < n := by have := (List.getElem?_eq_some_iff.1 hjv).1; have := HF.out; omega
            obtain ⟨b', off', x', e', _, hgh, hx', hc0'⟩ := hs2.at_ (k := j) (by rw [HF.out]; exact hjlt)
            obtain ⟨rfl, rfl⟩ : g2 = b' ∧ off = off' := by injection e' with e'; injection e' with e1 e2; exact ⟨e1, e2⟩
            obtain rfl : v = x' := by have := hjv.symm.trans hx'; injection this
            have HC0 := Lib.hid hc0'
            have hcw := (HB.out.cell (by show g2 < w.heap.size; omega)).trans hc0'
            have dj : decide ((j : Int) < 0) = false := decide_eq_false (by omega)
            have hjI : (j : Int) < (n : Int) := by omega
            have HUN := Lib.hid (show U.take (k + 1) = us ++ [v] by rw [List.take_add_one, hv, HUS.out]; rfl)
            have HKN := Lib.hid (show kidsO f beg L (k + 1) = kidsO f beg L k ++ (ordF f (L.erase v)).map fun l => (beg ++ [v]) ++ l from kidsO_next (by rw [HU.out]; exact hv))
            have HER := Lib.hid (erase_at hjv hjn)
            have HLL := Lib.hid (show (L.erase v).length = f by rw [List.length_erase_of_mem (List.mem_of_getElem? hjv), HF.out]; have := HNF.out; omega)
            clear hba hx' e' hc0' HBA hjv hjn hv
            go_wp2_with (at_builtin; refine wpList_append_ownB _ rfl _ _ 22 rfl w.heap.size 3 i0 Try.underlying22 hi0 hz0 hz1 hz2 _ k _ rfl (by have h := HT.out.used; rw [HKL.out] at h; exact h.alloc _) wr.heap.size 1 (.int .i64 v) rfl (one_cellO _ _) rfl (by omega) (by simp; omega) ?_; intro v5 w5 hown5 hgr5 hloc5; have HT5 := Lib.hid ((HT.out.below ((Below.refl wr.heap.size wr).alloc (Nat.le_refl _) (.cells #[.int .i64 v] 3))).useApp (by rw [HKL.out]; exact hown5) hgr5 (hloc5)); have HB5 := Lib.hid ((HB.out.alloc hsz (.cells #[.int .i64 v] 3)).grown hgr5 (by simp; omega) (fun g hg => (HT.out.used.lt g hg).1)); clear hown5 hgr5 hloc5)
            have hz5 := HB5.out.size
            obtain ⟨jn, hjn⟩ : ∃ jn, j + 1 = jn := ⟨_, rfl⟩
            have hw1 : IntKind.i64.wrap ((j : Int) + 1) = (jn : Int) := by rw [IntKind.wrap_i64]; omega
            have hjn1 : (jn : Int) ≤ (n : Int) := by omega
            have hjn0 : (0 : Int) ≤ (jn : Int) := by omega
            have hj0I : (0 : Int) ≤ (j : Int) := by omega
            have hjmI : (j : Int) ≤ (n : Int) := by omega
            have hjcN : j ≤ c2 := by omega
            have hjcI : (j : Int) ≤ (c2 : Int) := by omega
            have hncI : (n : Int) ≤ (c2 : Int) := by omega
            have hjnN : jn ≤ n := by omega
            obtain ⟨ad, hsA, hsT⟩ := tail_segO (hs2.below HB5.out hB2) HF.out (show jn ≤ n by omega) hfc
            refine wp_region_held_drew (S := (fun wq => Below w5.heap.size w5 wq)) (by kernel_rfl) (Below.refl w5.heap.size w5).drew (fun hH0 => ?_)
            refine wpAnyH_take (i := 0) (v := ?_) (ops_at rfl) (by kernel_rfl) (by kernel_rfl) (by kernel_rfl) (fun _ _ _ h => h) (Or.inl ⟨by rfl, ?yp0⟩) (by assumption) ?np0
            case yp0 => (intro wS hSw; (try dsimp only at hSw); go_simp; try rfl)
            try simp only [Act.put, List.setIfInBounds_toArray, List.set_cons_zero, List.set_cons_succ]
            refine wpAnyH_take (i := 1) (v := ?_) (ops_at rfl) (by kernel_rfl) (by kernel_rfl) (by kernel_rfl) (fun _ _ _ h => h) (Or.inl ⟨by rfl, ?yp1⟩) (by assumption) ?np1
            case yp1 => (intro wS hSw; (try dsimp only at hSw); go_simp; try rfl)
            try simp only [Act.put, List.setIfInBounds_toArray, List.set_cons_zero, List.set_cons_succ]
            refine wpAnyH_take (i := 2) (v := ?_) (ops_at rfl) (by kernel_rfl) (by kernel_rfl) (by kernel_rfl) (fun _ _ _ h => h) (Or.inl ⟨by rfl, ?yp2⟩) (by assumption) ?np2
            case yp2 => (intro wS hSw; (try dsimp only at hSw); go_simp; try rfl)
            try simp only [Act.put, List.setIfInBounds_toArray, List.set_cons_zero, List.set_cons_succ]
            refine wpAnyH_take (i := 4) (v := ?_) (ops_at rfl) (by kernel_rfl) (by kernel_rfl) (by kernel_rfl) (fun _ _ _ h => h) (Or.inl ⟨by rfl, ?yp4⟩) (by assumption) ?np4
            case yp4 => (intro wS hSw; (try dsimp only at hSw); go_simp; try rfl)
            try simp only [Act.put, List.setIfInBounds_toArray, List.set_cons_zero, List.set_cons_succ]
            refine wpAnyH_take (i := 5) (v := ?_) (ops_at rfl) (by kernel_rfl) (by kernel_rfl) (by kernel_rfl) (fun _ _ _ h => h) (Or.inl ⟨by rfl, ?yp5⟩) (by assumption) ?np5
            case yp5 => (intro wS hSw; (try dsimp only at hSw); go_simp; try rfl)
            try simp only [Act.put, List.setIfInBounds_toArray, List.set_cons_zero, List.set_cons_succ]
            refine wpAnyH_take (i := 6) (v := ?_) (ops_at rfl) (by kernel_rfl) (by kernel_rfl) (by kernel_rfl) (fun _ _ _ h => h) (Or.inl ⟨by rfl, ?yp6⟩) (by assumption) ?np6
            case yp6 => (intro wS hSw; (try dsimp only at hSw); go_simp; try rfl)
            try simp only [Act.put, List.setIfInBounds_toArray, List.set_cons_zero, List.set_cons_succ]
            refine wpAnyH_take (i := 7) (v := ?_) (ops_at rfl) (by kernel_rfl) (by kernel_rfl) (by kernel_rfl) (fun _ _ _ h => h) (Or.inl ⟨by rfl, ?yp7⟩) (by assumption) ?np7
            case yp7 => (intro wS hSw; (try dsimp only at hSw); go_simp; try rfl)
            try simp only [Act.put, List.setIfInBounds_toArray, List.set_cons_zero, List.set_cons_succ]
            obtain ⟨V, hV⟩ : ∃ V, w5.drew = V := ⟨_, rfl⟩
            rw [hV] at hH0 ⊢
            have HBV := Lib.hid hH0
            clear hV hH0
            refine wpAnyH_ready (rs := [3]) (by kernel_rfl) (by simp) ?_
            refine AllReadyH.cons (ops_at rfl) (fun K hK => ?_) AllReadyH.nil
            go_simp
            have hzV := HBV.out.size
            refine (l1Own_any (some ⟨g2, off, none⟩) j c2 (L.take j) l1 h1 V (by rw [List.length_take, HF.out]; omega) (by omega) ((hs2.below (HB5.out.trans (HBV.out.mono HB5.out.size)) hB2).takeI j) (by omega)).mono ?_
            rintro e V2 ⟨A4, c4, rfl, hown4, hb4⟩
            have HB4 := Lib.hid (HBV.out.trans (hb4.mono HBV.out.size))
            have HOW4 := Lib.hid (own_mono hown4 HBV.out.size)
            clear hown4 hb4
            dsimp only
            refine hK.out _ _ HB4.out (fun hHx => ?_)
            clear hK K hHx
            have HTL := Lib.hid (hsT.below HB4.out (by omega))
            refine wpAnyH_ready (rs := [8]) (by kernel_rfl) (by simp) ?_
            refine AllReadyH.cons (ops_at rfl) (fun K hK => ?_) AllReadyH.nil
            refine step_append_seg _ rfl _ _ 22 rfl w5.heap.size 3 i0 Try.underlying22 hi0 hz0 hz1 hz2 _ j _ rfl HOW4.out _ (n - jn) _ (L.drop jn) _ _ rfl (by rw [List.length_drop, HF.out]) HTL.out (by omega) HB4.out.size ?_
            intro v3 w7 hown3 hgr3
            have HLT4 := Lib.hid HOW4.out.lt
            have HB3 := Lib.hid (HB4.out.grown hgr3 HB4.out.size (fun g hg => (HLT4.out g hg).1))
            obtain ⟨A3, c3, rfl⟩ := ownsRow_form hown3
            have hmr : j + (n - jn) = f := by have := HNF.out; omega
            rw [hmr] at hown3 ⊢
            have hown3b : w7.ownsRow w5.heap.size 3 1 (.slice A3 f c3) f ((L.erase v).map (Value.int .i64)) := by rw [HER.out, hjn, List.map_append]; exact hown3
            have hfc3 := own_cap hown3b
            have HLESS := Lib.hid (ownsRow_own (ys := L.erase v) (by rw [HLL.out]; exact hown3b)).2.seg
            clear hown3 hown3b hgr3
            refine hK.out _ _ HB3.out (fun hHx => ?_)
            clear hK K hHx
            refine wpAnyH_take (i := 9) (v := ?_) (ops_at rfl) (by kernel_rfl) (by kernel_rfl) (by kernel_rfl) (fun _ _ _ h => h) (Or.inl ⟨by rfl, ?yp9⟩) (by assumption) ?np9
            case yp9 => (intro wS hSw; (try dsimp only at hSw); go_simp; try rfl)
            try simp only [Act.put, List.setIfInBounds_toArray, List.set_cons_zero, List.set_cons_succ]
            refine wpAnyH_done (by kernel_rfl) ?_ _
            have HT7 := Lib.hid (HT5.out.below HB3.out)
            have HB7 := Lib.hid (HB5.out.trans (HB3.out.mono HB5.out.size))
            have hz7 := HB7.out.size
            have hc7 := (HB7.out.cell (by show g2 < w.heap.size; omega)).trans HC0.out
            have HC7 := Lib.hid hc7
            have HS7 := Lib.hid (hs.below HB7.out hB)
            clear HB3 HB4 HOW4 HLT4 HTL HBV hsA hsT hcw HT5 HB5 HT hw1
            go_wp2_with fail
            refine wp_region_held_drew (S := (fun W => W.cell? ⟨g2, off + j, none⟩ = some (.int .i64 v) ∧ True)) (by kernel_rfl) ⟨hc7, trivial⟩ (fun hH0 => ?_)
            refine wpAnyH_take (i := 0) (v := ?_) (ops_at rfl) (by kernel_rfl) (by kernel_rfl) (by kernel_rfl) (fun _ _ _ h => h) (Or.inl ⟨by rfl, ?yq0⟩) (by assumption) ?nq0
            case yq0 => (intro wS hSw; (try dsimp only at hSw); go_simp; try rfl)
            try simp only [Act.put, List.setIfInBounds_toArray, List.set_cons_zero, List.set_cons_succ]
            refine wpAnyH_take (i := 1) (v := ?_) (ops_at rfl) (by kernel_rfl) (by kernel_rfl) (by kernel_rfl) (fun _ _ _ h => h) (Or.inl ⟨by rfl, ?yq1⟩) (by assumption) ?nq1
            case yq1 => (intro wS hSw; (try dsimp only at hSw); go_simp; try rfl)
            try simp only [Act.put, List.setIfInBounds_toArray, List.set_cons_zero, List.set_cons_succ]
            refine wpAnyH_take (i := 3) (v := ?_) (ops_at rfl) (by kernel_rfl) (by kernel_rfl) (by kernel_rfl) (fun _ _ _ h => h) (Or.inl ⟨by rfl, ?yq3⟩) (by assumption) ?nq3
            case yq3 => (intro wS hSw; (try dsimp only at hSw); go_simp; try rfl)
            try simp only [Act.put, List.setIfInBounds_toArray, List.set_cons_zero, List.set_cons_succ]
            refine wpAnyH_take (i := 4) (v := ?_) (ops_at rfl) (by kernel_rfl) (by kernel_rfl) (by kernel_rfl) (fun _ _ _ h => h) (Or.inl ⟨by rfl, ?yq4⟩) (by assumption) ?nq4
            case yq4 => (intro wS hSw; (try dsimp only at hSw); go_simp; try rfl)
            try simp only [Act.put, List.setIfInBounds_toArray, List.set_cons_zero, List.set_cons_succ]
            refine wpAnyH_take (i := 5) (v := ?_) (ops_at rfl) (by kernel_rfl) (by kernel_rfl) (by kernel_rfl) (fun _ _ _ h => h) (Or.inl ⟨by rfl, ?yq5⟩) (by assumption) ?nq5
            case yq5 => (intro wS hSw; (try dsimp only at hSw); go_simp; try rfl)
            try simp only [Act.put, List.setIfInBounds_toArray, List.set_cons_zero, List.set_cons_succ]
            refine wpAnyH_take (i := 6) (v := ?_) (ops_at rfl) (by kernel_rfl) (by kernel_rfl) (by kernel_rfl) (fun _ _ _ h => h) (Or.inl ⟨by rfl, ?yq6⟩) (by assumption) ?nq6
            case yq6 => (intro wS hSw; (try dsimp only at hSw); go_simp; try rfl)
            try simp only [Act.put, List.setIfInBounds_toArray, List.set_cons_zero, List.set_cons_succ]
            refine wpAnyH_take (i := 9) (v := ?_) (ops_at rfl) (by kernel_rfl) (by kernel_rfl) (by kernel_rfl) (fun _ _ _ h => h) (Or.inl ⟨by rfl, ?yq9⟩) (by assumption) ?nq9
            case yq9 => (intro wS hSw; (try dsimp only at hSw); go_simp; try rfl)
            try simp only [Act.put, List.setIfInBounds_toArray, List.set_cons_zero, List.set_cons_succ]
            refine wpAnyH_ready (rs := [2, 7]) (by kernel_rfl) (by simp) ?_
            refine AllReadyH.cons (ops_at rfl) (fun K hK => ?_) (AllReadyH.cons (ops_at rfl) (fun K hK => ?_) AllReadyH.nil)
            · go_simp
              refine (l1Own_any A m c beg lo hi w7.drew HM.out (by omega) (HS7.out.keep fun _ _ _ => rfl) (by show hi ≤ w7.heap.size; omega)).mono ?_
              rintro e w8 ⟨A8, c8, rfl, hown8, hb8⟩
              have hb8' : Below w7.heap.size w7 w8 := undrew hb8
              have hz8 := hb8'.size
              have hc8 := (hb8'.cell (by show g2 < w7.heap.size; omega)).trans HC7.out
              dsimp only
              refine hK.out _ _ ⟨hc8, trivial⟩ (fun hHq => ?_)
              clear hK K hHq
              refine wpAnyH_ready (rs := [7]) (by kernel_rfl) (by simp) ?_
              refine AllReadyH.cons (ops_at rfl) (fun K hK => ?_) AllReadyH.nil
              go_simp
              have hc9 : (w8.alloc (.cells #[.int .i64 v] 3)).cell? ⟨g2, off + j, none⟩ = some (.int .i64 v) := (World.cell?_alloc_lt w8 _ _ (by show g2 < w8.heap.size; omega)).trans hc8
              refine hK.out _ _ ⟨hc9, trivial⟩ (fun hHq => ?_)
              clear hK K hHq
              have hownX : (w8.alloc (.cells #[.int .i64 v] 3)).ownsRow w7.heap.size 3 1 (.slice A8 m c8) m (beg.map (Value.int .i64)) := (own_mono hown8 (Nat.le_refl _)).alloc _
              have hsegX := seg_one w8 v 3
              have hbX : Below w7.heap.size w7 (w8.alloc (.cells #[.int .i64 v] 3)) := hb8'.alloc hz8 _
              clear hown8 hb8 hb8' hc8 hc9
              have HOWX := Lib.hid hownX
              have HSEGX := Lib.hid hsegX
              have HBX := Lib.hid hbX
              have HLTX := Lib.hid hownX.lt
              have hzX := hbX.size
              clear hownX hsegX hbX
              refine wpAnyH_ready (rs := [8]) (by kernel_rfl) (by simp) ?_
              refine AllReadyH.cons (ops_at rfl) (fun K hK => ?_) AllReadyH.nil
              refine step_append_seg _ rfl (.tmp 63) (.tmp 68) 22 rfl w7.heap.size 3 i0 Try.underlying22 hi0 hz0 hz1 hz2 _ m _ rfl HOWX.out _ 1 1 [v] _ _ rfl rfl HSEGX.out (by omega) hzX ?_
              intro v9 w9 hown9 hgr9
              have HB9 := Lib.hid (HBX.out.grown hgr9 hzX (fun g hg => (HLTX.out g hg).1))
              obtain ⟨A9, c9, rfl⟩ := ownsRow_form hown9
              have HM9 := Lib.hid (show (beg ++ [v]).length = m + 1 by rw [List.length_append, HM.out]; rfl)
              have HA9 := Lib.hid (ownsRow_own (ys := beg ++ [v]) (by rw [HM9.out, List.map_append]; exact hown9)).2.seg
              have hz9 := HB9.out.size
              have HC9 := Lib.hid ((HB9.out.cell (by show g2 < w7.heap.size; omega)).trans HC7.out)
              have HL9 := Lib.hid (HLESS.out.below HB9.out (Nat.le_refl _))
              clear hown9 hgr9
              refine hK.out _ _ ⟨HC9.out, trivial⟩ (fun hHq => ?_)
              clear hK K hHq
              refine wpAnyH_ready (rs := [10]) (by kernel_rfl) (by simp) ?_
              refine AllReadyH.cons (ops_at rfl) (fun K hK => ?_) AllReadyH.nil
              go_simp
              refine (HIH.out (L.erase v) (beg ++ [v]) A9 A3 (m + 1) c9 c3 _ _ _ _ w9 HLL.out (by have := HNF.out; omega) HM9.out (by have := HNF.out; omega) hfc3 HA9.out (Nat.le_refl _) HL9.out (by omega)).mono ?_
              rintro e w10 ⟨A10, n10, c10, ws, rfl, hl10, hr10, hb10⟩
              have HR10 := Lib.hid hr10
              have HL10 := Lib.hid hl10
              have HBT := Lib.hid (HB9.out.trans (hb10.mono hz9))
              have HC10 := Lib.hid ((HBT.out.cell (by show g2 < w7.heap.size; omega)).trans HC7.out)
              have HT10 := Lib.hid (HT7.out.below HBT.out)
              have hz10 := HBT.out.size
              clear hl10 hr10 hb10
              dsimp only
              refine hK.out _ _ ⟨HC10.out, trivial⟩ (fun hHq => ?_)
              clear hK K hHq
              refine wpAnyH_ready (rs := [11]) (by kernel_rfl) (by simp) ?_
              refine AllReadyH.cons (ops_at rfl) (fun K hK => ?_) AllReadyH.nil
              refine step_append_rows _ rfl (.tmp 61) (.tmp 71) 29 rfl w.heap.size 22 j0 Try.underlying29 hj0 hy0 hy1 hy2 _ no _ rfl (by have h := HT10.out.rows.1; rw [HNO.out] at h; exact h) _ _ n10 _ rfl (by have h := HR10.out.1; rw [HL10.out] at h; exact h) HR10.out.2.one (by have h1 := HFEW.out (k + 1); rw [HKN.out, List.length_append, HNO.out, HL10.out] at h1; omega) (by omega) ?_
              intro v11 w11 hown11 hgr11 hloc11
              have HT11 := Lib.hid (HT10.out.outApp (HR10.out.2.far (by omega) (fun g hg => by have := (HT7.out.rows.1.lt g hg).2; omega)) (HR10.out.2.far (by omega) (fun g hg => by have := (HT7.out.used.lt g hg).2; omega)) (by rw [HNO.out, HL10.out]; exact hown11) hgr11 hloc11)
              have HB11 := Lib.hid ((HB7.out.trans (HBT.out.mono HB7.out.size)).grown hgr11 (by omega) (fun g hg => (HT7.out.rows.1.lt g hg).1))
              have HC11 : Hid (w11.cell? ⟨g2, off + j, none⟩ = some (.int .i64 v)) := Lib.hid ((HB11.out.cell (by show g2 < w.heap.size; omega)).trans HC0.out)
              clear hown11 hgr11 hloc11
              refine hK.out _ _ ⟨HC11.out, trivial⟩ (fun hHq => ?_)
              clear hK K
              refine wpAnyH_take (i := 12) (v := ?_) (ops_at rfl) (by kernel_rfl) (by kernel_rfl) (by kernel_rfl) (fun _ _ _ h => h) (Or.inl ⟨by rfl, ?yr12⟩) (by assumption) ?nr12
              case yr12 => (intro wS hSw; (try dsimp only at hSw); go_simp; try rfl)
              try simp only [Act.put, List.setIfInBounds_toArray, List.set_cons_zero, List.set_cons_succ]
              refine wpAnyH_done (by kernel_rfl) ?_ _
              go_wp2
              go_roundg gg
              case measure => omega
              case rel => exact ⟨k + 1, by omega, _, by rw [HUN.out, HKN.out]; exact HT11.out, HB11.out⟩
            · go_simp
              have hc8 : (w7.drew.alloc (.cells #[.int .i64 v] 3)).cell? ⟨g2, off + j, none⟩ = some (.int .i64 v) := (World.cell?_alloc_lt w7.drew _ _ (by show g2 < w7.heap.size; omega)).trans HC7.out
              refine hK.out _ _ ⟨hc8, trivial⟩ (fun hHq => ?_)
              clear hK K hHq
              have hb8 : Below w7.heap.size w7 (w7.drew.alloc (.cells #[.int .i64 v] 3)) := ((Below.refl w7.heap.size w7).drew).alloc (Nat.le_refl _) _
              have hs8 := seg_one w7.drew v 3
              have hz8 := hb8.size
              refine wpAnyH_ready (rs := [2]) (by kernel_rfl) (by simp) ?_
              refine AllReadyH.cons (ops_at rfl) (fun K hK => ?_) AllReadyH.nil
              go_simp
              refine (l1Own_any A m c beg lo hi _ HM.out (by omega) (HS7.out.below hb8 (by omega)) (by omega)).mono ?_
              rintro e w8 ⟨A8, c8, rfl, hown8, hb9⟩
              have hbX : Below w7.heap.size w7 w8 := hb8.trans (hb9.mono hz8)
              have hc9 := (hbX.cell (by show g2 < w7.heap.size; omega)).trans HC7.out
              dsimp only
              refine hK.out _ _ ⟨hc9, trivial⟩ (fun hHq => ?_)
              clear hK K hHq
              have hownX : w8.ownsRow w7.heap.size 3 1 (.slice A8 m c8) m (beg.map (Value.int .i64)) := own_mono hown8 hz8
              have hsegX := hs8.below hb9 (Nat.le_refl _)
              clear hown8 hb8 hb9 hc8 hc9 hs8
              have HOWX := Lib.hid hownX
              have HSEGX := Lib.hid hsegX
              have HBX := Lib.hid hbX
              have HLTX := Lib.hid hownX.lt
              have hzX := hbX.size
              clear hownX hsegX hbX
              refine wpAnyH_ready (rs := [8]) (by kernel_rfl) (by simp) ?_
              refine AllReadyH.cons (ops_at rfl) (fun K hK => ?_) AllReadyH.nil
              refine step_append_seg _ rfl (.tmp 63) (.tmp 68) 22 rfl w7.heap.size 3 i0 Try.underlying22 hi0 hz0 hz1 hz2 _ m _ rfl HOWX.out _ 1 1 [v] _ _ rfl rfl HSEGX.out (by omega) hzX ?_
              intro v9 w9 hown9 hgr9
              have HB9 := Lib.hid (HBX.out.grown hgr9 hzX (fun g hg => (HLTX.out g hg).1))
              obtain ⟨A9, c9, rfl⟩ := ownsRow_form hown9
              have HM9 := Lib.hid (show (beg ++ [v]).length = m + 1 by rw [List.length_append, HM.out]; rfl)
              have HA9 := Lib.hid (ownsRow_own (ys := beg ++ [v]) (by rw [HM9.out, List.map_append]; exact hown9)).2.seg
              have hz9 := HB9.out.size
              have HC9 := Lib.hid ((HB9.out.cell (by show g2 < w7.heap.size; omega)).trans HC7.out)
              have HL9 := Lib.hid (HLESS.out.below HB9.out (Nat.le_refl _))
              clear hown9 hgr9
              refine hK.out _ _ ⟨HC9.out, trivial⟩ (fun hHq => ?_)
              clear hK K hHq
              refine wpAnyH_ready (rs := [10]) (by kernel_rfl) (by simp) ?_
              refine AllReadyH.cons (ops_at rfl) (fun K hK => ?_) AllReadyH.nil
              go_simp
              refine (HIH.out (L.erase v) (beg ++ [v]) A9 A3 (m + 1) c9 c3 _ _ _ _ w9 HLL.out (by have := HNF.out; omega) HM9.out (by have := HNF.out; omega) hfc3 HA9.out (Nat.le_refl _) HL9.out (by omega)).mono ?_
              rintro e w10 ⟨A10, n10, c10, ws, rfl, hl10, hr10, hb10⟩
              have HR10 := Lib.hid hr10
              have HL10 := Lib.hid hl10
              have HBT := Lib.hid (HB9.out.trans (hb10.mono hz9))
              have HC10 := Lib.hid ((HBT.out.cell (by show g2 < w7.heap.size; omega)).trans HC7.out)
              have HT10 := Lib.hid (HT7.out.below HBT.out)
              have hz10 := HBT.out.size
              clear hl10 hr10 hb10
              dsimp only
              refine hK.out _ _ ⟨HC10.out, trivial⟩ (fun hHq => ?_)
              clear hK K hHq
              refine wpAnyH_ready (rs := [11]) (by kernel_rfl) (by simp) ?_
              refine AllReadyH.cons (ops_at rfl) (fun K hK => ?_) AllReadyH.nil
              refine step_append_rows _ rfl (.tmp 61) (.tmp 71) 29 rfl w.heap.size 22 j0 Try.underlying29 hj0 hy0 hy1 hy2 _ no _ rfl (by have h := HT10.out.rows.1; rw [HNO.out] at h; exact h) _ _ n10 _ rfl (by have h := HR10.out.1; rw [HL10.out] at h; exact h) HR10.out.2.one (by have h1 := HFEW.out (k + 1); rw [HKN.out, List.length_append, HNO.out, HL10.out] at h1; omega) (by omega) ?_
              intro v11 w11 hown11 hgr11 hloc11
              have HT11 := Lib.hid (HT10.out.outApp (HR10.out.2.far (by omega) (fun g hg => by have := (HT7.out.rows.1.lt g hg).2; omega)) (HR10.out.2.far (by omega) (fun g hg => by have := (HT7.out.used.lt g hg).2; omega)) (by rw [HNO.out, HL10.out]; exact hown11) hgr11 hloc11)
              have HB11 := Lib.hid ((HB7.out.trans (HBT.out.mono HB7.out.size)).grown hgr11 (by omega) (fun g hg => (HT7.out.rows.1.lt g hg).1))
              have HC11 : Hid (w11.cell? ⟨g2, off + j, none⟩ = some (.int .i64 v)) := Lib.hid ((HB11.out.cell (by show g2 < w.heap.size; omega)).trans HC0.out)
              clear hown11 hgr11 hloc11
              refine hK.out _ _ ⟨HC11.out, trivial⟩ (fun hHq => ?_)
              clear hK K
              refine wpAnyH_take (i := 12) (v := ?_) (ops_at rfl) (by kernel_rfl) (by kernel_rfl) (by kernel_rfl) (fun _ _ _ h => h) (Or.inl ⟨by rfl, ?ys12⟩) (by assumption) ?ns12
              case ys12 => (intro wS hSw; (try dsimp only at hSw); go_simp; try rfl)
              try simp only [Act.put, List.setIfInBounds_toArray, List.set_cons_zero, List.set_cons_succ]
              refine wpAnyH_done (by kernel_rfl) ?_ _
              go_wp2
              go_roundg gg
              case measure => omega
              case rel => exact ⟨k + 1, by omega, _, by rw [HUN.out, HKN.out]; exact HT11.out, HB11.out⟩
end Go.Proofs.Ytgcljhgpihpfgac

/-
  Regions whose order is open and whose last operation turns what was held: behind that one operation the world need not meet the condition; no program is spoken of here.
  Conditions: that operation waits for each one that is taken ahead of its turn.
-/
import Derived.Test.YtoheoojpmndhoabBdF
namespace Go.Proofs.Ytoheoojpmndhoab
set_option linter.unusedVariables false
open Go.RowKit

section
variable {P : Program} {ops : Array Oper} {Q : Exit → Act → World → Prop} {md : Region.Mode} {S : World → Prop} {L : Nat}

/-- Whatever order is taken from here on; S is met behind each operation but number L. -/
def AnyE (P : Program) (md : Region.Mode) (ops : Array Oper) (Q : Exit → Act → World → Prop) (S : World → Prop) (L : Nat) (n : Nat) (done : Array Bool) (a : Act) (w : World) : Prop :=
  match n with
  | 0 => Region.ready md ops done = [] ∧ Q .normal a w
  | n + 1 => (Region.ready md ops done = [] → Q .normal a w) ∧ ∀ i ∈ Region.ready md ops done, wpOp P ops Q i (fun a' w' => (i ≠ L → S w') ∧ AnyE P md ops Q S L n (done.setIfInBounds i true) a' w') a w

theorem AnyE.any (n : Nat) : ∀ (done : Array Bool) (a : Act) (w : World), AnyE P md ops Q S L n done a w → wpAny P md ops Q n done a w := by
  induction n with
  | zero => exact fun _ _ _ h => h
  | succ n ih => exact fun done a w h => ⟨h.1, fun i hi => wpOp_mono (fun a' w' k => ih _ a' w' k.2) (h.2 i hi)⟩

theorem AnyE.end_ {done : Array Bool} {a : Act} {w : World} (hr : Region.ready md ops done = []) (h : Q .normal a w) (n : Nat) : AnyE P md ops Q S L n done a w := by
  cases n with
  | zero => exact ⟨hr, h⟩
  | succ n => exact ⟨fun _ => h, fun i hi => by rw [hr] at hi; cases hi⟩

/-- Number L waits for number i. -/
def waits (md : Region.Mode) (ops : Array Oper) (L i : Nat) : Bool := match ops[L]? with
  | some p => p.after.any fun e => Region.binds md e && e.on == i
  | none => false

/-- One operation that yields the same wherever S is met may be taken ahead of all others, if number L waits for it. -/
theorem AnyE.ahead {i : Nat} {o : Oper} {v : Value} (ho : ops[i]? = some o) (hsel : Region.noSelect ops = true) (hL : waits md ops L i = true) (hQ : ∀ c a w, Q (.panic c) (a.put o.dst v) w → Q (.panic c) a w) (n : Nat) :
    ∀ (done : Array Bool) (a : Act) (w : World), (∀ j p, ops[j]? = some p → j ≠ i → done.getD j true = false → (∀ e ∈ p.after, Region.binds md e = true → e.on ≠ i) → o.apart ops p = true) → i ∈ Region.ready md ops done →
      YieldsIf P ops S o v a → S w → AnyE P md ops Q S L n (done.setIfInBounds i true) (a.put o.dst v) w → AnyE P md ops Q S L (n + 1) done a w := by
  induction n with
  | zero =>
    intro done a w _ hi hy hS h
    refine ⟨fun e => (by rw [e] at hi; cases hi), fun j hj => ?_⟩
    rcases Decidable.em (j = i) with rfl | hne
    · exact hy.wpOp ho hS ⟨fun _ => hS, h⟩
    · have hj' := ready_mono hj hne
      rw [h.1] at hj'
      cases hj'
  | succ n ih =>
    intro done a w hap hi hy hS h
    refine ⟨fun e => (by rw [e] at hi; cases hi), fun j hj => ?_⟩
    rcases Decidable.em (j = i) with rfl | hne
    · exact hy.wpOp ho hS ⟨fun _ => hS, h⟩
    · obtain ⟨hju, p, hp, hpre⟩ := mem_ready.1 hj
      have hwait : ∀ e ∈ p.after, Region.binds md e = true → e.on ≠ i := by
        rintro e he hb rfl
        have h1 := hpre e he hb
        have h0 := (mem_ready.1 hi).1
        rcases Nat.lt_or_ge e.on done.size with hlt | hge
        · simp [hlt] at h0 h1; rw [h0] at h1; cases h1
        · simp [Array.getElem?_eq_none hge] at h1
      have hjL : j ≠ L := by
        rintro rfl
        rw [waits, hp] at hL
        simp only [Array.any_eq_true'] at hL
        obtain ⟨e, he, hb⟩ := hL
        simp only [Bool.and_eq_true, beq_iff_eq] at hb
        exact hwait e he hb.1 hb.2
      have hmove := wpOp_putIf hp (hap j p hp hne hju hwait) (fun cs b => Region.noSelect_spec hsel i o cs b ho) (fun cs b => Region.noSelect_spec hsel j p cs b hp) hQ hy (h.2 j (ready_mono hj hne))
      refine wpOp_mono (fun a' w' k => ⟨k.2.1, ih _ a' w' (fun m q hq hmi hmu hno => hap m q hq hmi ?_ hno) (ready_mono hi (Ne.symm hne)) k.1 (k.2.1 hjL) ?_⟩) hmove
      · by_cases e : j = m
        · subst e; exact hju
        · rwa [getD_set_ne true e] at hmu
      · have := k.2.2
        rwa [Array.setIfInBounds_comm _ _ (Ne.symm hne)] at this

theorem AnyE.take {i : Nat} {o : Oper} {v : Value} {n : Nat} {done : Array Bool} {a : Act} {w : World} (ho : ops[i]? = some o) (hsel : Region.noSelect ops = true) (hL : waits md ops L i = true) (hf : Region.free md ops done i = true) (hr : (Region.ready md ops done).contains i = true)
    (hQ : ∀ c a w, Q (.panic c) (a.put o.dst v) w → Q (.panic c) a w) (hy : YieldsIf P ops S o v a) (hS : S w) (h : AnyE P md ops Q S L n (done.setIfInBounds i true) (a.put o.dst v) w) : AnyE P md ops Q S L (n + 1) done a w :=
  AnyE.ahead ho hsel hL hQ n done a w (Region.free_spec ho hf) (by simpa using hr) hy hS h

/-- Of those that may come now, these are still to be shown. -/
def ReadyE (P : Program) (md : Region.Mode) (ops : Array Oper) (Q : Exit → Act → World → Prop) (S : World → Prop) (L n : Nat) (done : Array Bool) (a : Act) (w : World) (rs : List Nat) : Prop :=
  ∀ i ∈ rs, wpOp P ops Q i (fun a' w' => (i ≠ L → S w') ∧ AnyE P md ops Q S L n (done.setIfInBounds i true) a' w') a w
theorem ReadyE.nil {n : Nat} {done : Array Bool} {a : Act} {w : World} : ReadyE P md ops Q S L n done a w [] := fun _ h => by cases h
theorem ReadyE.cons {n : Nat} {done : Array Bool} {a : Act} {w : World} {i : Nat} {o : Oper} {rs : List Nat} (ho : ops[i]? = some o)
    (h : ∀ K : Act → World → Prop, Shut (∀ a w, (i ≠ L → S w) → ((i ≠ L → S w) → AnyE P md ops Q S L n (done.setIfInBounds i true) a w) → K a w) → if Region.wanted o (yielded ops a.tmps) = true then Oper.wp P o a w K Q else K (a.put o.dst undef) w)
    (hs : ReadyE P md ops Q S L n done a w rs) : ReadyE P md ops Q S L n done a w (i :: rs) := fun j hj => by
  rcases List.mem_cons.1 hj with rfl | hj
  · exact wpOp_step ho (fun K hK => h K (fun a w hS hW => hK a w ⟨hS, hW hS⟩))
  · exact hs j hj
theorem AnyE.of_ready {rs : List Nat} {n : Nat} {done : Array Bool} {a : Act} {w : World} (hr : Region.ready md ops done = rs) (hne : rs ≠ []) (h : ReadyE P md ops Q S L n done a w rs) : AnyE P md ops Q S L (n + 1) done a w :=
  ⟨fun h0 => absurd (hr ▸ h0) hne, hr ▸ h⟩

/-- No operation defers a call. -/
def noDef (ops : Array Oper) : Bool := ops.all fun o => match o.op with
  | .defer _ => false
  | _ => true
theorem noDef_spec (h : noDef ops = true) : NoDefer ops := by
  intro i o ho c e
  rw [noDef, Array.all_eq_true] at h
  obtain ⟨hi, hv⟩ := Array.getElem?_eq_some_iff.1 ho
  have := h i hi
  rw [hv, e] at this
  cases this

/-- The beginning, in a round and outside one. -/
theorem round_region_E {S : World → Prop} (L : Nat) {l n id : Nat} {a : Act} {w : World} (hm : P.follows .mixedOrders = true) (hnd : noDef ops = true) (hlo : ¬ LetsOut Q) (hS : S w.drew)
    (h : S w.drew → AnyE P .any ops Q S L ops.size (Array.replicate ops.size false) a w.drew) : (Code.region id ops true).wpIn (Fence.wide.inRound l) n P Q a w :=
  wpIn_region_any hm (wpAny_in (noDef_spec hnd) hlo _ _ _ _ (AnyE.any _ _ _ _ (h hS)))
theorem region_E {S : World → Prop} (L : Nat) {id : Nat} {a : Act} {w : World} (hm : P.follows .mixedOrders = true) (hS : S w.drew)
    (h : S w.drew → AnyE P .any ops Q S L ops.size (Array.replicate ops.size false) a w.drew) : (Code.region id ops true).wp P Q a w :=
  wp_region_any hm (AnyE.any _ _ _ _ (h hS))
end
end Go.Proofs.Ytoheoojpmndhoab

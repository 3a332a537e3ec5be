/- A region that draws its order, told by ONE word on what is done, what the slots hold and the world: it is walked operation by operation, in no order. -/
import Derived.Test.YtpnahncmhldgdaaCore
namespace Go.Proofs.Ytpnahncmhldgdaa
open Go.RowKit
section
variable {P : Program} {ops : Array Oper} {Q : Exit → Act → World → Prop}
/-- What must be done ahead of an operation. -/
def aftersOf (o : Oper) : List Nat := o.after.toList.filterMap fun e => if Region.binds .any e then some e.on else none
/-- One operation's part. -/
def JointOk (P : Program) (ops : Array Oper) (Q : Exit → Act → World → Prop) (J : (Nat → Bool) → (Nat → Value) → World → Prop) (l0 : List Value) (ds : List Nat) (i : Nat) : Prop :=
  ∀ o, ops[i]? = some o → ∀ (l : Nat → Bool) (f : Nat → Value) (w : World), J l f w → l i = false → (∀ j ∈ aftersOf o, l j = true) → ∀ K : Act → World → Prop,
    (∀ (v : Value) (w' : World), J (fun j => j == i || l j) (fun s => if o.dst = some s then v else f s) w' → K (Act.put { tmps := (mixF f ds 0 l0).toArray, defers := [] } o.dst v) w') →
    if Region.wanted o (yielded ops (mixF f ds 0 l0).toArray) = true then Oper.wp P o { tmps := (mixF f ds 0 l0).toArray, defers := [] } w K Q else K (Act.put { tmps := (mixF f ds 0 l0).toArray, defers := [] } o.dst undef) w
theorem wp_region_joint {id : Nat} {l0 : List Value} {w0 : World} (hm : P.follows .mixedOrders = true)
    (J : (Nat → Bool) → (Nat → Value) → World → Prop) (ds : List Nat) (hds : dstsOf ops = ds)
    (hbk : edgesBack ops = true) (hfit : dstsFit ops l0.length = true)
    (h0 : ∀ f, J (fun _ => false) f w0.drew)
    (hstep : ∀ i, i < ops.size → JointOk P ops Q J l0 ds i)
    (hend : ∀ (l : Nat → Bool) (f : Nat → Value) w, (∀ i, i < ops.size → l i = true) → J l f w → Q .normal { tmps := (mixF f ds 0 l0).toArray, defers := [] } w) :
    (Code.region id ops true).wp P Q { tmps := l0.toArray, defers := [] } w0 := by
  subst hds
  have hfin : ∀ (listed : Array Bool) (a : Act) (w : World), listed.size = ops.size → (∀ (i : Nat) (o : Oper), ops[i]? = some o → listed.getD i true = true) → Fr { tmps := l0.toArray, defers := [] } ops a → J (fun i => listed.getD i false) (fun s => a.tmps.getD s undef) w → Q .normal a w := by
    intro listed a w hs hall hF hJ
    rw [frame_mix hF]
    refine hend _ _ w (fun i hi => ?_) hJ
    have := hall i _ (Array.getElem?_eq_getElem hi)
    have hi' : i < listed.size := by omega
    simpa [Array.getD_eq_getD_getElem?, Array.getElem?_eq_getElem hi'] using this
  have main : ∀ (fuel : Nat) (listed : Array Bool) (a : Act) (w : World), listed.size = ops.size → leftOps ops listed ≤ fuel → Fr { tmps := l0.toArray, defers := [] } ops a → J (fun i => listed.getD i false) (fun s => a.tmps.getD s undef) w → wpAny P .any ops Q fuel listed a w := by
    intro fuel
    induction fuel with
    | zero =>
      intro listed a w hs hf hF hJ
      have hall : ∀ (i : Nat) (o : Oper), ops[i]? = some o → listed.getD i true = true := by
        intro i o ho
        cases hl : listed.getD i true with
        | true => rfl
        | false =>
          have : i ∈ (List.range ops.size).filter fun i => !listed.getD i true := List.mem_filter.2 ⟨List.mem_range.2 (Array.getElem?_eq_some_iff.1 ho).1, by simp [hl]⟩
          have := List.length_pos_of_mem this
          unfold leftOps at hf
          omega
      refine ⟨?_, hfin listed a w hs hall hF hJ⟩
      cases hr : Region.ready .any ops listed with
      | nil => rfl
      | cons x xs =>
        have hx : x ∈ Region.ready .any ops listed := by rw [hr]; simp
        obtain ⟨hl, o, ho, _⟩ := mem_ready.1 hx
        rw [hall x o ho] at hl; cases hl
    | succ fuel ih =>
      intro listed a w hs hf hF hJ
      refine ⟨fun hr => ?_, fun i hi => ?_⟩
      · refine hfin listed a w hs (fun i o ho => ?_) hF hJ
        cases hl : listed.getD i true with
        | true => rfl
        | false => exact absurd hr (ready_some hbk listed i o ho hl)
      · obtain ⟨hl, o, ho, haft⟩ := mem_ready.1 hi
        have hio : i < ops.size := (Array.getElem?_eq_some_iff.1 ho).1
        have hil : i < listed.size := by omega
        have hlf : listed.getD i false = false := by
          simpa [Array.getD_eq_getD_getElem?, Array.getElem?_eq_getElem hil] using hl
        have ha := frame_mix hF
        have hst := hstep i hio o ho (fun i => listed.getD i false) (fun s => a.tmps.getD s undef) w hJ hlf (fun j hj => by
          obtain ⟨e, he, hej⟩ := List.mem_filterMap.1 hj
          split at hej
          · rename_i hb
            simp only [Option.some.injEq] at hej
            subst hej
            exact haft e (by simpa using he) hb
          · cases hej)
        rw [← ha] at hst
        refine wpOp_mono ?_ (wpOp_step (Q := Q) (K := fun a' w' => ∃ v, a' = a.put o.dst v ∧ J (fun j => j == i || listed.getD j false) (fun s => if o.dst = some s then v else a.tmps.getD s undef) w') ho fun K' hK => by
          have := hst K' (fun v w' hJ' => hK _ w' ⟨v, rfl, hJ'⟩)
          have hta : (mixF (fun s => a.tmps.getD s undef) (dstsOf ops) 0 l0).toArray = a.tmps := by
            have := congrArg Act.tmps ha
            exact this.symm
          rw [hta] at this
          exact this)
        rintro a' w' ⟨v, rfl, hJ'⟩
        refine ih _ _ _ (by simpa using hs) ?_ (hF.put ho v) ?_
        · have : leftOps ops (listed.setIfInBounds i true) < leftOps ops listed := by
            unfold leftOps
            refine filter_length_lt _ _ _ (fun x _ hx => ?_) ⟨i, List.mem_range.2 hio, by simp [hl], ?_⟩
            · by_cases hxi : i = x
              · subst hxi; simp [hl]
              · rw [getD_set_ne true hxi] at hx; exact hx
            · simp [hil]
          omega
        · have e1 : (fun j => (listed.setIfInBounds i true).getD j false) = fun j => j == i || listed.getD j false := by
            funext j
            by_cases hji : i = j
            · subst hji
              simp [Array.getD_eq_getD_getElem?, hil]
            · rw [getD_set_ne false hji]
              have : (j == i) = false := by simp; omega
              simp [this]
          have e2 : (fun s => (a.put o.dst v).tmps.getD s undef) = fun s => if o.dst = some s then v else a.tmps.getD s undef := by
            funext s
            cases hod : o.dst with
            | none => simp [Act.put]
            | some d =>
              have hdn : d < a.tmps.size := by
                rw [hF.2.1]
                have := dstsFit_spec hfit i o d ho hod
                simpa using this
              by_cases hds : d = s
              · subst hds; simp [Act.put, hdn]
              · have : ¬ (some d = some s) := by simpa using hds
                rw [if_neg this]
                simp [Act.put, Array.getD_eq_getD_getElem?, Array.getElem?_setIfInBounds_ne hds]
          rw [e1, e2]; exact hJ'
  refine wp_region_any hm (main ops.size _ _ _ (by simp) ?_ (Fr.refl _) ?_)
  · unfold leftOps; exact Nat.le_trans (List.length_filter_le _ _) (by simp)
  · have e : (fun i => (Array.replicate ops.size false).getD i false) = fun _ => false := by
      funext i
      by_cases hi : i < ops.size <;> simp [Array.getD_eq_getD_getElem?, hi]
    rw [e]; exact h0 _
end
/-- What slots hold whose values are known: the operation, its slot, the value. -/
def Vals (T : List (Nat × Nat × Value)) (l : Nat → Bool) (f : Nat → Value) : Prop := ∀ t ∈ T, l t.1 = true → f t.2.1 = t.2.2
theorem Vals.nothing (T : List (Nat × Nat × Value)) (f : Nat → Value) : Vals T (fun _ => false) f := fun t _ h => by cases h
theorem Vals.step {T : List (Nat × Nat × Value)} {l : Nat → Bool} {f : Nat → Value} (h : Vals T l f) (i d : Nat) (v : Value) (hT : ∀ t ∈ T, (t.1 = i → t.2.1 = d ∧ t.2.2 = v) ∧ (t.1 ≠ i → t.2.1 ≠ d)) :
    Vals T (fun j => j == i || l j) (fun s => if some d = some s then v else f s) := by
  intro t ht hl
  obtain ⟨h1, h2⟩ := hT t ht
  by_cases hi : t.1 = i
  · obtain ⟨e1, e2⟩ := h1 hi
    simp only [e1, if_true]
    exact e2.symm
  · have hne : ¬ (some d = some t.2.1) := fun e => h2 hi (by simpa using e.symm)
    simp only [if_neg hne]
    refine h t ht ?_
    simpa [hi] using hl
end Go.Proofs.Ytpnahncmhldgdaa

/- A region that draws its order, whatever its operations do: what each slot holds is told by a word of its own, which lasts; the region is walked operation by operation, in no order. -/
import Derived.Orders
import Derived.Test.YtpaeioabmmkheaaReader
namespace Go.Proofs.Ytpaeioabmmkheaa
open Go.RowKit

section
variable {P : Program} {ops : Array Oper} {Q : Exit → Act → World → Prop}

/-- The frame a is a0 but for the slots that the region writes. -/
def Fr (a0 : Act) (ops : Array Oper) (a : Act) : Prop :=
  a.defers = a0.defers ∧ a.tmps.size = a0.tmps.size ∧ ∀ s, (∀ (i : Nat) (o : Oper), ops[i]? = some o → o.dst ≠ some s) → a.tmps.getD s undef = a0.tmps.getD s undef

theorem Fr.refl (a0 : Act) : Fr a0 ops a0 := ⟨rfl, rfl, fun _ _ => rfl⟩
theorem Fr.put {a0 a : Act} (h : Fr a0 ops a) {i : Nat} {o : Oper} (ho : ops[i]? = some o) (v : Value) : Fr a0 ops (a.put o.dst v) := by
  obtain ⟨h1, h2, h3⟩ := h
  cases hd : o.dst with
  | none => exact ⟨h1, h2, h3⟩
  | some d =>
    refine ⟨h1, by simpa [Act.put] using h2, fun s hs => ?_⟩
    have hne : d ≠ s := fun e => hs i o ho (by rw [hd, e])
    rw [← h3 s hs]
    simp [Act.put, Array.getD_eq_getD_getElem?, Array.getElem?_setIfInBounds_ne hne]

/-- What is known when the operations of 'listed' are done. -/
def Known (I : World → Prop) (p : Nat → Value → World → Prop) (a0 : Act) (ops : Array Oper) (listed : Array Bool) (a : Act) (w : World) : Prop :=
  I w ∧ Fr a0 ops a ∧ ∀ (i : Nat) (o : Oper) (d : Nat), ops[i]? = some o → listed.getD i false = true → o.dst = some d → p d (a.tmps.getD d undef) w

def dstsApart (ops : Array Oper) : Bool := (List.range ops.size).all fun i => (List.range ops.size).all fun j => i == j || (match ops[i]?, ops[j]? with | some x, some y => (match x.dst, y.dst with | some c, some d => c != d | _, _ => true) | _, _ => true)
theorem dstsApart_spec (h : dstsApart ops = true) (i j : Nat) (x y : Oper) (d : Nat) (hx : ops[i]? = some x) (hy : ops[j]? = some y) (hxd : x.dst = some d) (hyd : y.dst = some d) : i = j := by
  have hi : i < ops.size := (Array.getElem?_eq_some_iff.1 hx).1
  have hj : j < ops.size := (Array.getElem?_eq_some_iff.1 hy).1
  have := (List.all_eq_true.1 ((List.all_eq_true.1 h) i (List.mem_range.2 hi))) j (List.mem_range.2 hj)
  simp only [hx, hy, hxd, hyd, bne_self_eq_false, Bool.or_false, beq_iff_eq] at this
  exact this
def edgesBack (ops : Array Oper) : Bool := (List.range ops.size).all fun i => match ops[i]? with | some o => o.after.all fun e => !Region.binds .any e || decide (e.on < i) | none => true
theorem edgesBack_spec (h : edgesBack ops = true) (i : Nat) (o : Oper) (hi : ops[i]? = some o) (e : Edge) (he : e ∈ o.after) (hbe : Region.binds .any e = true) : e.on < i := by
  have := (List.all_eq_true.1 h) i (List.mem_range.2 (Array.getElem?_eq_some_iff.1 hi).1)
  simp only [hi, Array.all_eq_true_iff_forall_mem] at this
  simpa [hbe] using this e he
def dstsFit (ops : Array Oper) (n : Nat) : Bool := ops.all fun o => match o.dst with | some d => decide (d < n) | none => true
theorem dstsFit_spec {n : Nat} (h : dstsFit ops n = true) (i : Nat) (o : Oper) (d : Nat) (hi : ops[i]? = some o) (hd : o.dst = some d) : d < n := by
  have := (Array.all_eq_true_iff_forall_mem.1 h) o (Array.mem_of_getElem? hi)
  simp only [hd] at this
  simpa using this

/-- Some operation is ready as long as one is left. -/
theorem ready_some (hb : edgesBack ops = true) (listed : Array Bool) (i : Nat) : ∀ (o : Oper), ops[i]? = some o → listed.getD i true = false → Region.ready .any ops listed ≠ [] := by
  induction i using Nat.strongRecOn with
  | _ i ih =>
    intro o ho hl
    by_cases h : ∀ e ∈ o.after, Region.binds .any e = true → listed.getD e.on false = true
    · intro hn
      have : i ∈ Region.ready .any ops listed := mem_ready.2 ⟨hl, o, ho, h⟩
      rw [hn] at this; cases this
    · simp only [Classical.not_forall] at h
      obtain ⟨e, he, hbe, hf⟩ := h
      have hlt := edgesBack_spec hb i o ho e he hbe
      have hi : i < ops.size := (Array.getElem?_eq_some_iff.1 ho).1
      by_cases hin : e.on < listed.size
      · refine ih e.on hlt (ops[e.on]'(by omega)) (Array.getElem?_eq_getElem (by omega)) ?_
        simp [Array.getD_eq_getD_getElem?, Array.getElem?_eq_getElem hin] at hf ⊢
        exact hf
      · exfalso
        have : listed.getD i true = true := by
          simp [Array.getD_eq_getD_getElem?, Array.getElem?_eq_none (show listed.size ≤ i by omega)]
        rw [this] at hl; cases hl

/-- How many operations are left. -/
def leftOps (ops : Array Oper) (listed : Array Bool) : Nat := ((List.range ops.size).filter fun i => !listed.getD i true).length

theorem filter_length_lt {α : Type} (f g : α → Bool) : ∀ (l : List α), (∀ x ∈ l, g x = true → f x = true) → (∃ x ∈ l, f x = true ∧ g x = false) → (l.filter g).length < (l.filter f).length := by
  intro l
  induction l with
  | nil => rintro _ ⟨x, hx, _⟩; cases hx
  | cons a l ih =>
    intro h1 ⟨x, hx, hf, hg⟩
    have hle : (l.filter g).length ≤ (l.filter f).length := by
      clear ih hx hf hg x
      induction l with
      | nil => simp
      | cons b l ihb =>
        have := ihb (fun y hy => h1 y (by simp at hy ⊢; rcases hy with h | h <;> simp [h]))
        have hb := h1 b (by simp)
        simp only [List.filter_cons]
        cases hgb : g b <;> cases hfb : f b <;> simp_all <;> omega
    rcases List.mem_cons.1 hx with rfl | hx'
    · simp only [List.filter_cons, hf, hg]; simp; omega
    · have := ih (fun y hy => h1 y (List.mem_cons_of_mem _ hy)) ⟨x, hx', hf, hg⟩
      have ha := h1 a (by simp)
      simp only [List.filter_cons]
      cases hga : g a <;> cases hfa : f a <;> simp_all <;> omega

theorem wp_region_inv {id : Nat} {a0 : Act} {w0 : World} (hm : P.follows .mixedOrders = true)
    (I : Nat → World → Prop) (p : Nat → Value → World → Prop) (ext : World → World → Prop)
    (hap : dstsApart ops = true) (hbk : edgesBack ops = true) (hfit : dstsFit ops a0.tmps.size = true)
    (hstable : ∀ s v w w', p s v w → ext w w' → p s v w')
    (h0 : I 0 w0.drew)
    (hstep : ∀ (i : Nat) (o : Oper), ops[i]? = some o → ∀ n a w, n < ops.size → I n w → Fr a0 ops a →
      (∀ e ∈ o.after, Region.binds .any e = true → ∀ (o' : Oper) (d : Nat), ops[e.on]? = some o' → o'.dst = some d → p d (a.tmps.getD d undef) w) →
      wpOp P ops Q i (fun a' w' => ∃ v, a' = a.put o.dst v ∧ (∀ d, o.dst = some d → p d v w') ∧ I (n + 1) w' ∧ ext w w') a w)
    (hend : ∀ n a w, n ≤ ops.size → I n w → Fr a0 ops a → (∀ (i : Nat) (o : Oper) (d : Nat), ops[i]? = some o → o.dst = some d → p d (a.tmps.getD d undef) w) → Q .normal a w) :
    (Code.region id ops true).wp P Q a0 w0 := by
  have main : ∀ (fuel n : Nat) (listed : Array Bool) (a : Act) (w : World), listed.size = ops.size → leftOps ops listed ≤ fuel → n + fuel ≤ ops.size → Known (I n) p a0 ops listed a w → wpAny P .any ops Q fuel listed a w := by
    intro fuel
    induction fuel with
    | zero =>
      intro n listed a w hs hf hnf hk
      have hall : ∀ (i : Nat) (o : Oper), ops[i]? = some o → listed.getD i true = true := by
        intro i o ho
        cases hl : listed.getD i true with
        | true => rfl
        | false =>
          have : i ∈ (List.range ops.size).filter fun i => !listed.getD i true := List.mem_filter.2 ⟨List.mem_range.2 (Array.getElem?_eq_some_iff.1 ho).1, by simp [hl]⟩
          have := List.length_pos_of_mem this
          unfold leftOps at hf
          omega
      refine ⟨?_, hend n a w (by omega) hk.1 hk.2.1 fun i o d ho hd => hk.2.2 i o d ho ?_ hd⟩
      · cases hr : Region.ready .any ops listed with
        | nil => rfl
        | cons x xs =>
          have hx : x ∈ Region.ready .any ops listed := by rw [hr]; simp
          obtain ⟨hl, o, ho, _⟩ := mem_ready.1 hx
          rw [hall x o ho] at hl; cases hl
      · have := hall i o ho
        have hi : i < listed.size := by rw [hs]; exact (Array.getElem?_eq_some_iff.1 ho).1
        simpa [Array.getD_eq_getD_getElem?, Array.getElem?_eq_getElem hi] using this
    | succ fuel ih =>
      intro n listed a w hs hf hnf hk
      refine ⟨fun hr => ?_, fun i hi => ?_⟩
      · refine hend n a w (by omega) hk.1 hk.2.1 fun i o d ho hd => hk.2.2 i o d ho ?_ hd
        have hi : i < listed.size := by rw [hs]; exact (Array.getElem?_eq_some_iff.1 ho).1
        cases hl : listed.getD i true with
        | true => simpa [Array.getD_eq_getD_getElem?, Array.getElem?_eq_getElem hi] using hl
        | false => exact absurd hr (ready_some hbk listed i o ho hl)
      · obtain ⟨hl, o, ho, haft⟩ := mem_ready.1 hi
        have hio : i < ops.size := (Array.getElem?_eq_some_iff.1 ho).1
        refine wpOp_mono ?_ (hstep i o ho n a w (by omega) hk.1 hk.2.1 fun e he hb o' d ho' hd => hk.2.2 e.on o' d ho' (haft e he hb) hd)
        rintro a' w' ⟨v, rfl, hv, hI, hext⟩
        refine ih (n + 1) _ _ _ (by simpa using hs) ?_ (by omega) ⟨hI, hk.2.1.put ho v, fun j o' d ho' hlj hd => ?_⟩
        · have : leftOps ops (listed.setIfInBounds i true) < leftOps ops listed := by
            unfold leftOps
            refine filter_length_lt _ _ _ (fun x _ hx => ?_) ⟨i, List.mem_range.2 hio, by simp [hl], ?_⟩
            · by_cases hxi : i = x
              · subst hxi; simp [hl]
              · rw [getD_set_ne true hxi] at hx; exact hx
            · simp [show i < listed.size by omega]
          omega
        · by_cases hij : i = j
          · subst hij
            rw [ho] at ho'
            obtain rfl := Option.some.inj ho'
            have hdn : d < a.tmps.size := by rw [hk.2.1.2.1]; exact dstsFit_spec hfit i o d ho hd
            have : (a.put o.dst v).tmps.getD d undef = v := by rw [hd]; simp [Act.put, hdn]
            rw [this]; exact hv d hd
          · rw [getD_set_ne false hij] at hlj
            have hold := hk.2.2 j o' d ho' hlj hd
            have : (a.put o.dst v).tmps.getD d undef = a.tmps.getD d undef := by
              cases hod : o.dst with
              | none => rfl
              | some c =>
                have hcd : c ≠ d := fun e => hij (dstsApart_spec hap i j o o' d ho ho' (by rw [hod, e]) hd)
                simp [Act.put, Array.getD_eq_getD_getElem?, Array.getElem?_setIfInBounds_ne hcd]
            rw [this]; exact hstable _ _ _ _ hold hext
  refine wp_region_any hm (main ops.size 0 _ _ _ (by simp) ?_ (by omega) ⟨h0, Fr.refl a0, fun i o d _ hl _ => ?_⟩)
  · unfold leftOps; exact Nat.le_trans (List.length_filter_le _ _) (by simp)
  · exfalso
    by_cases hi : i < ops.size
    · simp [hi] at hl
    · simp [hi] at hl

/-- The frame l0 with f's values in the slots ds. -/
def mixF (f : Nat → Value) (ds : List Nat) : Nat → List Value → List Value
  | _, [] => []
  | s, v :: r => (if ds.contains s then f s else v) :: mixF f ds (s + 1) r
theorem mixF_len (f : Nat → Value) (ds : List Nat) : ∀ (l : List Value) (s : Nat), (mixF f ds s l).length = l.length := by
  intro l; induction l with
  | nil => intro s; rfl
  | cons a l ih => intro s; simp [mixF, ih]
theorem mixF_get (f : Nat → Value) (ds : List Nat) : ∀ (l : List Value) (s k : Nat), k < l.length → (mixF f ds s l)[k]? = some (if ds.contains (s + k) then f (s + k) else l.getD k undef) := by
  intro l; induction l with
  | nil => intro s k h; cases h
  | cons a l ih =>
    intro s k h
    cases k with
    | zero => simp [mixF]
    | succ k =>
      have := ih (s + 1) k (by simpa using h)
      simp only [mixF, List.getElem?_cons_succ, this, List.getD_cons_succ]
      rw [show s + 1 + k = s + (k + 1) by omega]
def dstsOf (ops : Array Oper) : List Nat := ops.toList.filterMap (·.dst)
def depsOf (ops : Array Oper) (o : Oper) : List Nat := o.after.toList.filterMap fun e => if Region.binds .any e then (ops[e.on]?).bind (·.dst) else none

/-- One operation's part. -/
def StepOk (P : Program) (ops : Array Oper) (Q : Exit → Act → World → Prop) (I : Nat → World → Prop) (p : Nat → Value → World → Prop) (ext : World → World → Prop) (l0 : List Value) (ds : List Nat) (i : Nat) : Prop :=
  ∀ o, ops[i]? = some o → ∀ (n : Nat) (f : Nat → Value) (w : World), n < ops.size → I n w → (∀ d ∈ depsOf ops o, p d (f d) w) → ∀ K : Act → World → Prop,
    (∀ (v : Value) (w' : World), (match o.dst with | some d => p d v w' | none => True) → I (n + 1) w' → ext w w' → K (Act.put { tmps := (mixF f ds 0 l0).toArray, defers := [] } o.dst v) w') →
    if Region.wanted o (yielded ops (mixF f ds 0 l0).toArray) = true then Oper.wp P o { tmps := (mixF f ds 0 l0).toArray, defers := [] } w K Q else K (Act.put { tmps := (mixF f ds 0 l0).toArray, defers := [] } o.dst undef) w

theorem frame_mix {a : Act} {l0 : List Value} (h : Fr { tmps := l0.toArray, defers := [] } ops a) : a = { tmps := (mixF (fun s => a.tmps.getD s undef) (dstsOf ops) 0 l0).toArray, defers := [] } := by
  obtain ⟨h1, h2, h3⟩ := h
  obtain ⟨t, d⟩ := a
  simp only at h1 h2 h3
  subst h1
  simp only [Act.mk.injEq, and_true]
  refine Array.ext ?_ ?_
  · simp [mixF_len, h2]
  · intro k hk hk'
    have hkl : k < l0.length := by simpa [h2] using hk
    have hg := mixF_get (fun s => t.getD s undef) (dstsOf ops) l0 0 k hkl
    have : (mixF (fun s => t.getD s undef) (dstsOf ops) 0 l0).toArray[k]? = some t[k] := by
      rw [List.getElem?_toArray, hg, Nat.zero_add]
      by_cases hc : (dstsOf ops).contains k = true
      · simp only [if_pos hc]; simp [Array.getD_eq_getD_getElem?, Array.getElem?_eq_getElem hk]
      · simp only [if_neg hc]
        have := h3 k (fun i o ho hd => hc (by
          have hm : k ∈ dstsOf ops := List.mem_filterMap.2 ⟨o, by simpa using Array.mem_of_getElem? ho, hd⟩
          simpa using hm))
        simp [Array.getD_eq_getD_getElem?, Array.getElem?_eq_getElem hk, List.getElem?_eq_getElem hkl] at this ⊢
        exact this.symm
    rw [Array.getElem?_eq_getElem hk'] at this
    exact (Option.some.inj this).symm

theorem wp_region_steps {id : Nat} {l0 : List Value} {w0 : World} (hm : P.follows .mixedOrders = true)
    (I : Nat → World → Prop) (p : Nat → Value → World → Prop) (ext : World → World → Prop) (ds : List Nat) (hds : dstsOf ops = ds)
    (hap : dstsApart ops = true) (hbk : edgesBack ops = true) (hfit : dstsFit ops l0.length = true)
    (hstable : ∀ s v w w', p s v w → ext w w' → p s v w')
    (h0 : I 0 w0.drew)
    (hstep : ∀ i, i < ops.size → StepOk P ops Q I p ext l0 ds i)
    (hend : ∀ (n : Nat) (f : Nat → Value) w, n ≤ ops.size → I n w → (∀ d ∈ ds, p d (f d) w) → Q .normal { tmps := (mixF f ds 0 l0).toArray, defers := [] } w) :
    (Code.region id ops true).wp P Q { tmps := l0.toArray, defers := [] } w0 := by
  subst hds
  refine wp_region_inv hm I p ext hap hbk (by simpa using hfit) hstable h0 ?_ ?_
  · intro i o ho n a w hn hI hF hd
    have ha := frame_mix hF
    generalize hf : (fun s => a.tmps.getD s undef) = f at ha
    have hpd : ∀ d ∈ depsOf ops o, p d (f d) w := by
      intro d hdm
      obtain ⟨e, he, hed⟩ := List.mem_filterMap.1 hdm
      split at hed
      · rename_i hb
        obtain ⟨o', ho', hod⟩ := Option.bind_eq_some_iff.1 hed
        rw [← hf]
        exact hd e (by simpa using he) hb o' d ho' hod
      · cases hed
    subst ha
    refine wpOp_step ho fun K' hK => hstep i (Array.getElem?_eq_some_iff.1 ho).1 o ho n f w hn hI hpd K' ?_
    intro v w' hp hI' hext
    refine hK _ w' ⟨v, rfl, ?_, hI', hext⟩
    intro d hd'
    simp only [hd'] at hp ⊢
    exact hp
  · intro n a w hn hI hF hp
    have ha := frame_mix hF
    generalize hf : (fun s => a.tmps.getD s undef) = f at ha
    have := hend n f w hn hI (fun d hd => by
      obtain ⟨o, ho, hod⟩ := List.mem_filterMap.1 hd
      obtain ⟨i, hi, hio⟩ := List.getElem_of_mem ho
      rw [← hf]
      exact hp i o d (by rw [← hio]; simp at hi ⊢) hod)
    rw [ha]; exact this
end
/-- What a slot of a drawn region holds: a known value; a number in bounds; a new row of numbers in bounds; a place in such a row. -/
inductive SK where
  | is (v : Value) | int (lo hi : Int) | lit (n : Nat) (lo hi : Int) | to (lo hi : Int) | any
def SK.ok (R : Nat) : SK → Value → World → Prop
  | .is v0, v, _ => v = v0
  | .int lo hi, v, _ => ∃ x : Int, v = .int .i64 x ∧ lo ≤ x ∧ x ≤ hi
  | .lit n lo hi, v, w => ∃ g, v = .slice (some ⟨g, 0, none⟩) n n ∧ R < g ∧ ∀ i, i < n → ∃ x : Int, w.cell? ⟨g, i, none⟩ = some (.int .i64 x) ∧ lo ≤ x ∧ x ≤ hi
  | .to lo hi, v, w => ∃ g i, v = .pointer (some ⟨g, i, none⟩) ∧ R < g ∧ ∃ x : Int, w.cell? ⟨g, i, none⟩ = some (.int .i64 x) ∧ lo ≤ x ∧ x ≤ hi
  | .any, _, _ => True
theorem SK.ok_upd {R : Nat} : ∀ (k : SK) (v : Value) (w w' : World), k.ok R v w → Upd R w w' → k.ok R v w'
  | .is _, _, _, _, h, _ => h
  | .int _ _, _, _, _, h, _ => h
  | .lit _ _ _, _, _, _, ⟨g, hv, hg, hc⟩, hu => ⟨g, hv, hg, fun i hi => by obtain ⟨x, hx, hb⟩ := hc i hi; exact ⟨x, hu.cell hx (by omega), hb⟩⟩
  | .to _ _, _, _, _, ⟨g, i, hv, hg, x, hx, hb⟩, hu => ⟨g, i, hv, hg, x, hu.cell hx (by omega), hb⟩
  | .any, _, _, _, _, _ => trivial
/-- A row of numbers that has just been laid. -/
theorem lit_ok {w : World} {R n : Nat} {T : TypeId} {lo hi : Int} {cs : List Int} (hR : R < w.heap.size) (hl : cs.length = n) (hb : ∀ x ∈ cs, lo ≤ x ∧ x ≤ hi) :
    (SK.lit n lo hi).ok R (.slice (some ⟨w.heap.size, 0, none⟩) n n) (w.alloc (.cells (cs.map (Value.int .i64)).toArray T)) := by
  refine ⟨w.heap.size, rfl, hR, fun i hi => ?_⟩
  have hi' : i < cs.length := by omega
  refine ⟨cs[i], ?_, hb _ (List.getElem_mem hi')⟩
  rw [cell_of_row _ w.heap.size i _ T (0, 0) (heap_alloc_new w _)]
  simp [hi']
end Go.Proofs.Ytpaeioabmmkheaa

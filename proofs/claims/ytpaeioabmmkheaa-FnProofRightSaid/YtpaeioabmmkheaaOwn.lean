/- Rows that the call itself owns: appending one element; reading them. No function of the program is named here. -/
import Derived.Test.YtpaeioabmmkheaaRowE
import Derived.Laws.AppendOwnNone
namespace Go.Proofs.Ytpaeioabmmkheaa
open Go.RowKit
/-- v owns n elements of type e (size cells each), the cells xs, from block B on; it is not the nil slice. -/
def Own (w : World) (B : Nat) (e : TypeId) (size : Nat) (v : Value) (n : Nat) (xs : List Value) : Prop := w.ownsRow B e size v n xs ∧ v ≠ .slice none 0 0
theorem Own.grown {w w' : World} {B : Nat} {e : TypeId} {size n : Nat} {v : Value} {xs : List Value} {row : Option Nat} (h : Own w B e size v n xs) (hg : w.grownBy w' row) (hrow : ∀ k, row = some k → k < B) : Own w' B e size v n xs := by
  refine ⟨h.1.kept hg ?_, h.2⟩
  rcases hv : v.ownBlock with _ | k
  · exact .inl rfl
  · have := (h.1.lt k hv).1
    exact .inr (fun e => by have := hrow k e.symm; omega)
theorem Own.alloc {w : World} {B : Nat} {e : TypeId} {size n : Nat} {v : Value} {xs : List Value} (h : Own w B e size v n xs) (o : Obj) : Own (w.alloc o) B e size v n xs := ⟨h.1.alloc o, h.2⟩
theorem Own.drewN {w : World} {B : Nat} {e : TypeId} {size n : Nat} {v : Value} {xs : List Value} (h : Own w B e size v n xs) (m : Nat) : Own (w.drewN m) B e size v n xs := h
theorem Own.drawn {w w' : World} {B : Nat} {e : TypeId} {size n : Nat} {v : Value} {xs : List Value} (h : Own w B e size v n xs) (hd : Drawn w w') : Own w' B e size v n xs := by obtain ⟨m, rfl⟩ := hd; exact h
theorem Below.grownBy {w w' : World} (hb : Below w.heap.size w w') (row : Option Nat) : w.grownBy w' row := ⟨hb.os, hb.tape, hb.output, hb.size, fun k hk _ => hb.block k hk⟩
theorem Own.below {w w' : World} {B : Nat} {e : TypeId} {size n : Nat} {v : Value} {xs : List Value} (h : Own w B e size v n xs) (hb : Below w.heap.size w w') : Own w' B e size v n xs :=
  h.grown (row := none) (Below.grownBy hb none) (fun k hk => by cases hk)
/-- 'xs := []T{}': a new row without elements. -/
theorem own_lit {w : World} {B : Nat} (e : TypeId) (size : Nat) (cs : Array Value) (n : Nat) (hB : B ≤ w.heap.size) (hn : n ≤ maxLen) (hs : cs.size = n * size) :
    Own (w.alloc (.cells cs e)) B e size (.slice (some ⟨w.heap.size, 0, none⟩) n n) n cs.toList :=
  ⟨World.ownsRow_lit w cs n hB hn hs, by simp⟩
theorem Own.slice {w : World} {B : Nat} {e : TypeId} {size n : Nat} {v : Value} {xs : List Value} (h : Own w B e size v n xs) : ∃ g cap, v = .slice (some ⟨g, 0, none⟩) n cap ∧ B ≤ g ∧ g < w.heap.size := by
  rcases h.1.2 with ⟨h1, _⟩ | ⟨g, cap, cur, h1, hB, hg, _⟩
  · exact absurd h1 h.2
  · exact ⟨g, cap, h1, hB, (Array.getElem?_eq_some_iff.1 hg).1⟩
theorem Own.mono {w : World} {B B' : Nat} {e : TypeId} {size n : Nat} {v : Value} {xs : List Value} (h : Own w B e size v n xs) (hB : B' ≤ B) : Own w B' e size v n xs := by
  refine ⟨⟨h.1.1, ?_⟩, h.2⟩
  rcases h.1.2 with h1 | ⟨g, cap, cur, h1, hb, r⟩
  · exact .inl h1
  · exact .inr ⟨g, cap, cur, h1, by omega, r⟩

/-- The guide's law of append for an operation that is wanted, guarded or not. -/
theorem wpList_append_wanted {P : Program} (w : World) {ops : Array Oper} {rest : List Oper} {o : Oper} {a : Act} {Q : Exit → Act → World → Prop} (hgd : Region.wanted o (yielded ops a.tmps) = true) (s x : Operand) (t : TypeId)
    (ho : o.op = .call { callee := .builtin .append, args := #[s, x], argTypes := #[t, t] })
    (base : Nat) (e : TypeId) (i : TypeInfo) (z : Value) (size bytes : Nat) (ht : P.underlying t = some (.slice e)) (hi : P.info? e = some i) (hz : i.zero = some z)
    (hsize : i.size = size) (hby : i.bytes = bytes) (hzs : z.cells.size = size) (hsz : 0 < size)
    (v : Value) (n : Nat) (xs : List Value) (hs : a.eval s = v) (hown : w.ownsRow base e size v n xs)
    (ad : Addr) (m c : Nat) (news : List Value) (hx : a.eval x = .slice (some ad) m c) (hl : news.length = m * size) (hnews : ∀ j u, news[j]? = some u → w.cell? (ad.add j) = some u) (h1 : ∀ u ∈ news, u.oneCell' = true)
    (h63 : n + m ≤ maxLen) (hbytes : (n + m) * bytes ≤ 140737488355328) (hbase : base ≤ w.heap.size)
    (h : ∀ v' w', w'.ownsRow base e size v' (n + m) (xs ++ news) → w.grownBy w' v.ownBlock → (v' = .slice none 0 0 ↔ v = .slice none 0 0 ∧ m = 0) → wpList P ops Q rest (a.put o.dst v') w') : wpList P ops Q (o :: rest) a w :=
  BigFrame.wpList_want hgd fun _ hK => wp_append_own w s x t ho base e i z size bytes ht hi hz hsize hby hzs hsz v n xs hs hown ad m c news hx hl hnews h1 h63 hbytes hbase fun v' w' h2 h3 h4 => hK _ _ (h v' w' h2 h3 h4)
theorem wpList_append_none_wanted {P : Program} {w : World} {ops : Array Oper} {rest : List Oper} {o : Oper} {a : Act} {Q : Exit → Act → World → Prop} (hgd : Region.wanted o (yielded ops a.tmps) = true) (s x : Operand) (t : TypeId)
    (ho : o.op = .call { callee := .builtin .append, args := #[s, x], argTypes := #[t, t] })
    (base : Nat) (e : TypeId) (i : TypeInfo) (size : Nat) (ht : P.underlying t = some (.slice e)) (hi : P.info? e = some i)
    (v : Value) (n : Nat) (xs : List Value) (hs : a.eval s = v) (hown : w.ownsRow base e size v n xs) (hx : a.eval x = .slice none 0 0)
    (h : wpList P ops Q rest (a.put o.dst v) w) : wpList P ops Q (o :: rest) a w := by
  refine BigFrame.wpList_want hgd fun K hK => ?_
  have hrun := run_append_owned_none (P := P) (w := w) base t o.type e i size ht hi v n xs hown
  unfold Oper.wp
  simp [execOp, ho, resolve, invoke, builtin, hs, hx, hrun, Result.andThen]
  exact hK _ _ h

/-- 'xs = append(xs, x)', x ONE element that has just been laid in a block of its own. -/
theorem wpList_append_one {P : Program} {W : World} {ops : Array Oper} {rest : List Oper} {o : Oper} {a : Act} {Q : Exit → Act → World → Prop} (hgd : Region.wanted o (yielded ops a.tmps) = true) (s x : Operand) (t : TypeId)
    (ho : o.op = .call { callee := .builtin .append, args := #[s, x], argTypes := #[t, t] })
    (B : Nat) (e e' : TypeId) (z : Value) (size bytes : Nat) (ht : P.underlying t = some (.slice e)) (hinfo : (P.info? e).map (fun i => (i.zero, i.size, i.bytes)) = some (some z, size, bytes))
    (hzs : z.cells.size = size) (hsz : 0 < size)
    (v : Value) (n : Nat) (xs news : List Value) (hs : a.eval s = v) (hown : Own W B e size v n xs) (hx : a.eval x = .slice (some ⟨W.heap.size, 0, none⟩) 1 1)
    (hl : news.length = size) (h1 : ∀ u ∈ news, u.oneCell' = true)
    (hn : n ≤ 4000000) (hby : bytes ≤ 100000) (hbase : B ≤ W.heap.size)
    (h : ∀ v' w', Own w' B e size v' (n + 1) (xs ++ news) → (W.alloc (.cells news.toArray e')).grownBy w' v.ownBlock → wpList P ops Q rest (a.put o.dst v') w') :
    wpList P ops Q (o :: rest) a (W.alloc (.cells news.toArray e')) := by
  obtain ⟨i0, hi, hz0, hz1, hz2⟩ := info_parts hinfo
  refine wpList_append_wanted (P := P) (W.alloc (.cells news.toArray e')) hgd s x t ho B e i0 z size bytes ht hi hz0 hz1 hz2 hzs hsz v n xs hs (hown.1.alloc _) ⟨W.heap.size, 0, none⟩ 1 1 news hx (by rw [hl, Nat.one_mul]) ?_ h1 (by unfold maxLen; omega) ?_ (by simp; omega) ?_
  · intro j u hu
    rw [show (⟨W.heap.size, 0, none⟩ : Addr).add j = ⟨W.heap.size, j, none⟩ by unfold Addr.add; split <;> simp_all]
    rw [cell_of_row (W.alloc (.cells news.toArray e')) W.heap.size j news.toArray e' (0, 0) (heap_alloc_new W _)]
    rw [List.getElem?_toArray]; exact hu
  · calc (n + 1) * bytes ≤ 4000001 * 100000 := Nat.mul_le_mul (by omega) hby
      _ ≤ 140737488355328 := by decide
  · intro v' w' h2 h3 h4
    refine h v' w' ⟨h2, fun e => ?_⟩ h3
    have := (h4.1 e).1
    exact hown.2 this

/-- The same, where the slice may still be nil. -/
theorem wpList_append_one' {P : Program} {W : World} {ops : Array Oper} {rest : List Oper} {o : Oper} {a : Act} {Q : Exit → Act → World → Prop} (hgd : Region.wanted o (yielded ops a.tmps) = true) (s x : Operand) (t : TypeId)
    (ho : o.op = .call { callee := .builtin .append, args := #[s, x], argTypes := #[t, t] })
    (B : Nat) (e e' : TypeId) (z : Value) (size bytes : Nat) (ht : P.underlying t = some (.slice e)) (hinfo : (P.info? e).map (fun i => (i.zero, i.size, i.bytes)) = some (some z, size, bytes))
    (hzs : z.cells.size = size) (hsz : 0 < size)
    (v : Value) (n : Nat) (xs news : List Value) (hs : a.eval s = v) (hown : W.ownsRow B e size v n xs) (hx : a.eval x = .slice (some ⟨W.heap.size, 0, none⟩) 1 1)
    (hl : news.length = size) (h1 : ∀ u ∈ news, u.oneCell' = true)
    (hn : n ≤ 4000000) (hby : bytes ≤ 100000) (hbase : B ≤ W.heap.size)
    (h : ∀ v' w', w'.ownsRow B e size v' (n + 1) (xs ++ news) → v' ≠ .slice none 0 0 → (W.alloc (.cells news.toArray e')).grownBy w' v.ownBlock → wpList P ops Q rest (a.put o.dst v') w') :
    wpList P ops Q (o :: rest) a (W.alloc (.cells news.toArray e')) := by
  obtain ⟨i0, hi, hz0, hz1, hz2⟩ := info_parts hinfo
  refine wpList_append_wanted (P := P) (W.alloc (.cells news.toArray e')) hgd s x t ho B e i0 z size bytes ht hi hz0 hz1 hz2 hzs hsz v n xs hs (hown.alloc _) ⟨W.heap.size, 0, none⟩ 1 1 news hx (by rw [hl, Nat.one_mul]) ?_ h1 (by unfold maxLen; omega) ?_ (by simp; omega) ?_
  · intro j u hu
    rw [show (⟨W.heap.size, 0, none⟩ : Addr).add j = ⟨W.heap.size, j, none⟩ by unfold Addr.add; split <;> simp_all]
    rw [cell_of_row (W.alloc (.cells news.toArray e')) W.heap.size j news.toArray e' (0, 0) (heap_alloc_new W _)]
    rw [List.getElem?_toArray]; exact hu
  · calc (n + 1) * bytes ≤ 4000001 * 100000 := Nat.mul_le_mul (by omega) hby
      _ ≤ 140737488355328 := by decide
  · intro v' w' h2 h3 h4
    exact h v' w' h2 (fun e => by have := (h4.1 e).2; omega) h3

/-- The cells of a list of pairs. -/
def flatE : List Ent → List Value
  | [] => []
  | e :: r => .int .i64 e.1 :: .int .i64 e.2 :: flatE r
theorem flatE_append (l m : List Ent) : flatE (l ++ m) = flatE l ++ flatE m := by
  induction l with
  | nil => rfl
  | cons e r ih => simp [flatE, ih]
theorem flatE_len (l : List Ent) : (flatE l).length = l.length * 2 := by
  induction l with
  | nil => rfl
  | cons e r ih => simp [flatE, ih]; omega
theorem flatE_get (l : List Ent) : ∀ k, k < l.length → (flatE l)[k * 2]? = some (.int .i64 (l.getD k (0, 0)).1) ∧ (flatE l)[k * 2 + 1]? = some (.int .i64 (l.getD k (0, 0)).2) := by
  induction l with
  | nil => intro k h; cases h
  | cons e r ih =>
    intro k h
    cases k with
    | zero => simp [flatE]
    | succ k =>
      have := ih k (by simpa using h)
      rw [show (k + 1) * 2 = k * 2 + 1 + 1 by omega, show k * 2 + 1 + 1 + 1 = (k * 2 + 1) + 1 + 1 by omega]
      simpa [flatE] using this
def WfE (l : List Ent) : Prop := ∀ e ∈ l, (Lit.int .i64 e.1).wf = true ∧ (Lit.int .i64 e.2).wf = true
theorem WfE.snoc {l : List Ent} (h : WfE l) {x y : Int} (hx : (Lit.int .i64 x).wf = true) (hy : (Lit.int .i64 y).wf = true) : WfE (l ++ [(x, y)]) := by
  intro e he
  rcases List.mem_append.1 he with h' | h'
  · exact h e h'
  · simp at h'; subst h'; exact ⟨hx, hy⟩
/-- What is owned reads as the pairs. -/
theorem rowE_of_own {w : World} {B : Nat} {e : TypeId} {v : Value} {l : List Ent} (h : Own w B e 2 v l.length (flatE l)) (hm : l.length ≤ 4000000) (hw : WfE l) :
    ∃ g cap, v = .slice (some ⟨g, 0, none⟩) l.length cap ∧ B ≤ g ∧ RowE w (some ⟨g, 0, none⟩) l.length l := by
  obtain ⟨g, cap, rfl, hB, hlt⟩ := h.slice
  refine ⟨g, cap, rfl, hB, rfl, by unfold maxLen; omega, fun _ => ⟨g, 0, rfl, fun i hi => ?_⟩, hw⟩
  have h1 := h.1.cellAt (i * 2) (by omega)
  have h2 := h.1.cellAt (i * 2 + 1) (by omega)
  have := flatE_get l i hi
  rw [Nat.zero_add]
  exact ⟨h1.trans this.1, h2.trans this.2⟩
/-- A new list of pairs: l, owned from where the heap ended. -/
def NewE (w : World) (e0 : TypeId) (l : List Ent) (e : Ending) (w' : World) : Prop :=
  ∃ v, e = .returned v ∧ Own w' w.heap.size e0 2 v l.length (flatE l) ∧ WfE l ∧ Below w.heap.size w w'
/-- 'xs = append(xs, ys...)': ys whatever, the nil slice too. -/
theorem wpList_append_rows {P : Program} {W : World} {ops : Array Oper} {rest : List Oper} {o : Oper} {a : Act} {Q : Exit → Act → World → Prop} (hgd : Region.wanted o (yielded ops a.tmps) = true) (s x : Operand) (t : TypeId)
    (ho : o.op = .call { callee := .builtin .append, args := #[s, x], argTypes := #[t, t] })
    (B : Nat) (e : TypeId) (z : Value) (size bytes : Nat) (ht : P.underlying t = some (.slice e)) (hinfo : (P.info? e).map (fun i => (i.zero, i.size, i.bytes)) = some (some z, size, bytes))
    (hzs : z.cells.size = size) (hsz : 0 < size)
    (v : Value) (n : Nat) (xs news : List Value) (hs : a.eval s = v) (hown : Own W B e size v n xs) (ad : Option Addr) (m c : Nat) (hx : a.eval x = .slice ad m c)
    (hnil : ad = none → m = 0 ∧ c = 0)
    (hl : news.length = m * size) (hnews : ∀ ad', ad = some ad' → ∀ j u, news[j]? = some u → W.cell? (ad'.add j) = some u) (h1 : ∀ u ∈ news, u.oneCell' = true)
    (hn : n + m ≤ 4000000) (hby : bytes ≤ 100000) (hbase : B ≤ W.heap.size)
    (h : ∀ v' w', Own w' B e size v' (n + m) (xs ++ news) → W.grownBy w' v.ownBlock → wpList P ops Q rest (a.put o.dst v') w') :
    wpList P ops Q (o :: rest) a W := by
  obtain ⟨i0, hi, hz0, hz1, hz2⟩ := info_parts hinfo
  cases ad with
  | none =>
    obtain ⟨rfl, rfl⟩ := hnil rfl
    have hnn : news = [] := List.eq_nil_of_length_eq_zero (by omega)
    refine wpList_append_none_wanted hgd s x t ho B e i0 size ht hi v n xs hs hown.1 hx ?_
    refine h v W ?_ (World.grownBy.refl W _)
    rw [hnn, List.append_nil, Nat.add_zero]; exact hown
  | some ad =>
    refine wpList_append_wanted (P := P) W hgd s x t ho B e i0 z size bytes ht hi hz0 hz1 hz2 hzs hsz v n xs hs hown.1 ad m c news hx hl (hnews ad rfl) h1 (by unfold maxLen; omega) ?_ hbase ?_
    · calc (n + m) * bytes ≤ 4000000 * 100000 := Nat.mul_le_mul hn hby
        _ ≤ 140737488355328 := by decide
    · intro v' w' h2 h3 h4
      exact h v' w' ⟨h2, fun e => hown.2 (h4.1 e).1⟩ h3
theorem flatE_oneCell (l : List Ent) : ∀ u ∈ flatE l, u.oneCell' = true := by
  induction l with
  | nil => intro u hu; cases hu
  | cons e r ih =>
    intro u hu
    simp only [flatE, List.mem_cons] at hu
    rcases hu with rfl | rfl | hu
    · rfl
    · rfl
    · exact ih u hu
/-- The cells of a row of pairs, where append looks for them. -/
theorem RowE.news {w : World} {a : Option Addr} {n : Nat} {l : List Ent} (h : RowE w a n l) : ∀ ad, a = some ad → ∀ j u, (flatE l)[j]? = some u → w.cell? (ad.add j) = some u := by
  intro ad he j u hu
  have hj : j < n * 2 := by
    have := (List.getElem?_eq_some_iff.1 hu).1
    rw [flatE_len, h.1] at this; exact this
  obtain ⟨b, off, he', hc⟩ := h.2.2.1 (by omega)
  rw [he] at he'
  obtain rfl := Option.some.inj he'
  rw [show (⟨b, off, none⟩ : Addr).add j = ⟨b, off + j, none⟩ by unfold Addr.add; split <;> simp_all]
  obtain ⟨h1, h2⟩ := hc (j / 2) (by omega)
  obtain ⟨f1, f2⟩ := flatE_get l (j / 2) (by rw [h.1]; omega)
  rcases (by omega : j = j / 2 * 2 ∨ j = j / 2 * 2 + 1) with e | e
  · rw [← e] at f1
    rw [f1] at hu
    rw [show off + j = off + j / 2 * 2 by omega, h1]; exact hu
  · rw [← e] at f2
    rw [f2] at hu
    rw [show off + j = off + j / 2 * 2 + 1 by omega, h2]; exact hu
theorem RowE.cut {w : World} {a : Option Addr} {n m : Nat} {l : List Ent} (h : RowE w a n l) (hm : m ≤ n) : RowE w a m (l.take m) := by
  obtain ⟨h1, h2, h3, h4⟩ := h
  refine ⟨by rw [List.length_take]; omega, by omega, fun h0 => ?_, fun e he => h4 e (List.mem_of_mem_take he)⟩
  obtain ⟨b, off, he, hc⟩ := h3 (by omega)
  refine ⟨b, off, he, fun i hi => ?_⟩
  have hg : (l.take m).getD i (0, 0) = l.getD i (0, 0) := by rw [List.getD_eq_getElem?_getD, List.getD_eq_getElem?_getD, List.getElem?_take, if_pos hi]
  rw [hg]; exact hc i (by omega)
theorem owns_mono {w : World} {B B' : Nat} {e : TypeId} {size n : Nat} {v : Value} {xs : List Value} (h : w.ownsRow B e size v n xs) (hB : B' ≤ B) : w.ownsRow B' e size v n xs := by
  refine ⟨h.1, ?_⟩
  rcases h.2 with h1 | ⟨g, cap, cur, h1, hb, r⟩
  · exact .inl h1
  · exact .inr ⟨g, cap, cur, h1, by omega, r⟩
theorem owns_grown {w w' : World} {B : Nat} {e : TypeId} {size n : Nat} {v : Value} {xs : List Value} {row : Option Nat} (h : w.ownsRow B e size v n xs) (hg : w.grownBy w' row) (hrow : ∀ k, row = some k → k < B) : w'.ownsRow B e size v n xs := by
  refine h.kept hg ?_
  rcases hv : v.ownBlock with _ | k
  · exact .inl rfl
  · have := (h.lt k hv).1
    exact .inr (fun e => by have := hrow k e.symm; omega)
theorem owns_below {w w' : World} {B : Nat} {e : TypeId} {size n : Nat} {v : Value} {xs : List Value} (h : w.ownsRow B e size v n xs) (hb : Below w.heap.size w w') : w'.ownsRow B e size v n xs :=
  owns_grown h (row := none) (Below.grownBy hb none) (fun k hk => by cases hk)
theorem owns_lt {w : World} {B : Nat} {e : TypeId} {size n : Nat} {v : Value} {xs : List Value} (h : w.ownsRow B e size v n xs) {g : Nat} (hg : g < B) : some g ≠ v.ownBlock := fun e => by
  have := (h.lt g e.symm).1; omega
/-- What is owned, or nil, reads as the pairs. -/
theorem rowE_of_owns {w : World} {B : Nat} {e : TypeId} {v : Value} {l : List Ent} (h : w.ownsRow B e 2 v l.length (flatE l)) (hm : l.length ≤ 4000000) (hw : WfE l) :
    ∃ a cap, v = .slice a l.length cap ∧ RowE w a l.length l ∧ (a = none → cap = 0) := by
  by_cases hv : v = .slice none 0 0
  · have h0 : l.length = 0 := by
      rcases h.2 with ⟨_, h1⟩ | ⟨g, cap, cur, h1, _⟩
      · exact h1
      · rw [hv] at h1; simp at h1
    obtain rfl : l = [] := List.eq_nil_of_length_eq_zero h0
    exact ⟨none, 0, hv, rowE_empty _ _, fun _ => rfl⟩
  · obtain ⟨g, cap, h1, _, h2⟩ := rowE_of_own ⟨h, hv⟩ hm hw
    exact ⟨_, cap, h1, h2, fun h => by cases h⟩
theorem rowE_owned {w : World} {B : Nat} {e : TypeId} {a : Option Addr} {n cap : Nat} {l : List Ent} (h : w.ownsRow B e 2 (.slice a n cap) n (flatE l)) (hl : l.length = n) (hm : l.length ≤ 4000000) (hw : WfE l) : RowE w a n l := by
  subst hl
  obtain ⟨a', c', he, hr, _⟩ := rowE_of_owns h hm hw
  simp only [Value.slice.injEq] at he
  obtain ⟨rfl, -, -⟩ := he
  exact hr
theorem RowE.grown {w w' : World} {b n : Nat} {row : Option Nat} {l : List Ent} (h : RowE w (some ⟨b, 0, none⟩) n l) (hg : w.grownBy w' row) (hne : some b ≠ row) : RowE w' (some ⟨b, 0, none⟩) n l := by
  obtain ⟨h1, h2, h3, h4⟩ := h
  refine ⟨h1, h2, fun hl => ?_, h4⟩
  obtain ⟨b', off, he, hc⟩ := h3 hl
  obtain ⟨rfl, rfl⟩ : b = b' ∧ 0 = off := by simpa using he
  refine ⟨b, 0, rfl, fun i hi => ?_⟩
  exact ⟨World.grownBy.cell hg (hc i hi).1 hne, World.grownBy.cell hg (hc i hi).2 hne⟩
end Go.Proofs.Ytpaeioabmmkheaa

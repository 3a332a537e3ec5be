/- Arrays of ints in blocks of their own: loads and stores of one cell and of all. No function of the program is named here. -/
import Derived.Test.YtpaeioabmmkheaaOwn
import Derived.Deep.WholeRow
namespace Go.Proofs.Ytpaeioabmmkheaa
open Go.RowKit
/-- The cells of a list of ints. -/
def cellsI (A : List Int) : Array Value := (A.map (Value.int .i64)).toArray
theorem cellsI_size (A : List Int) : (cellsI A).size = A.length := by simp [cellsI]
theorem cellsI_one (A : List Int) : (cellsI A).all (·.oneCell') = true := by
  rw [Array.all_eq_true_iff_forall_mem]
  intro u hu
  simp only [cellsI, List.mem_toArray, List.mem_map] at hu
  obtain ⟨x, _, rfl⟩ := hu
  rfl
theorem cellsI_get (A : List Int) (j : Nat) (hj : j < A.length) : (cellsI A)[j]? = some (.int .i64 (A.getD j 0)) := by
  simp [cellsI, hj]
theorem cellsI_set (A : List Int) (i : Nat) (v : Int) : (cellsI A).setIfInBounds i (.int .i64 v) = cellsI (A.set i v) := by
  simp [cellsI, List.map_set]
/-- The block g holds the ints A, made with the type T. -/
def Arr (w : World) (g : Nat) (T : TypeId) (A : List Int) : Prop := w.heap[g]? = some (.cells (cellsI A) T (0, 0))
theorem Arr.lt {w : World} {g : Nat} {T : TypeId} {A : List Int} (h : Arr w g T A) : g < w.heap.size := (Array.getElem?_eq_some_iff.1 h).1
theorem Arr.new (w : World) (T : TypeId) (A : List Int) : Arr (w.alloc (.cells (cellsI A) T)) w.heap.size T A := heap_alloc_new w _
theorem Arr.alloc {w : World} {g : Nat} {T : TypeId} {A : List Int} (h : Arr w g T A) (o : Obj) : Arr (w.alloc o) g T A := (Below.heap_alloc w o g h.lt).trans h
theorem Arr.below {B : Nat} {w w' : World} {g : Nat} {T : TypeId} {A : List Int} (h : Arr w g T A) (hb : Below B w w') (hg : g < B) : Arr w' g T A := (hb.block g hg).trans h
theorem Arr.after {w w' : World} {g : Nat} {T : TypeId} {A : List Int} (h : Arr w g T A) (hb : Below w.heap.size w w') : Arr w' g T A := h.below hb h.lt
theorem Arr.drewN {w : World} {g : Nat} {T : TypeId} {A : List Int} (h : Arr w g T A) (m : Nat) : Arr (w.drewN m) g T A := h
theorem Arr.set {w : World} {g : Nat} {T : TypeId} {A : List Int} (h : Arr w g T A) (i : Nat) (v : Int) : Arr (w.setCell ⟨g, i, none⟩ (.int .i64 v)) g T (A.set i v) := by
  have := heap_setCell_same w g i (cellsI A) T (.int .i64 v) h
  rw [cellsI_set] at this; exact this
theorem Arr.setOther {w : World} {g : Nat} {T : TypeId} {A : List Int} (h : Arr w g T A) (a : Addr) (v : Value) (hne : g ≠ a.block) : Arr (w.setCell a v) g T A := (heap_setCell_other w a g v hne).trans h
theorem Arr.setRow {w : World} {g : Nat} {T : TypeId} {A : List Int} (h : Arr w g T A) (A' : List Int) : Arr (w.setRow g (cellsI A')) g T A' := setRow_heap w g _ _ T _ h
theorem Arr.setRowOther {w : World} {g k : Nat} {T : TypeId} {A : List Int} (h : Arr w g T A) (cs : Array Value) (hne : g ≠ k) : Arr (w.setRow k cs) g T A := (setRow_other w k g cs hne).trans h
theorem Arr.grown {w w' : World} {row : Option Nat} {g : Nat} {T : TypeId} {A : List Int} (h : Arr w g T A) (hg : w.grownBy w' row) (hne : some g ≠ row) : Arr w' g T A := (hg.block g h.lt hne).trans h
theorem Arr.cell {w : World} {g : Nat} {T : TypeId} {A : List Int} (h : Arr w g T A) (j : Nat) (hj : j < A.length) : w.cell? ⟨g, j, none⟩ = some (.int .i64 (A.getD j 0)) := by
  rw [cell_of_row w g j (cellsI A) T (0, 0) h]; exact cellsI_get A j hj
theorem Arr.frozen {w : World} {g : Nat} {T : TypeId} {A : List Int} (h : Arr w g T A) (j : Nat) : w.frozen? ⟨g, j, none⟩ = false := frozen_of_row w g j (cellsI A) T h
theorem below_setRow {B : Nat} {a w : World} {g : Nat} (h : Below B a w) (hg : B ≤ g) (cs : Array Value) : Below B a (w.setRow g cs) :=
  h.trans ⟨rfl, rfl, rfl, by simp, fun k hk => setRow_other w g k cs (by omega)⟩
theorem size_setCell (w : World) (a : Addr) (v : Value) : (w.setCell a v).heap.size = w.heap.size := by simp [World.setCell]
/-- A whole array out of its block. -/
theorem wpList_load_arr {P : Program} {ops : Array Oper} {rest : List Oper} {o : Oper} {a : Act} {w : World} {Q : Exit → Act → World → Prop} (hgd : o.guard = none) (ty : TypeId) (x : Operand) (ho : o.op = .load ty x)
    (g : Nat) (hx : a.eval x = .pointer (some ⟨g, 0, none⟩)) (T : TypeId) (A : List Int) (h : Arr w g T A) (n : Nat) (e : TypeId)
    (hu : P.underlying ty = some (.array n e)) (hi : (P.info? ty).map (·.size) = some A.length)
    (hk : wpList P ops Q rest (a.put o.dst (.agg (cellsI A))) w) : wpList P ops Q (o :: rest) a w :=
  wpList_load_row hgd ty x ho g hx T (cellsI A) (0, 0) _ h hu rfl (by rw [cellsI_size]; exact hi) hk
/-- A whole array into its block. -/
theorem wpList_store_arr {P : Program} {ops : Array Oper} {rest : List Oper} {o : Oper} {a : Act} {w : World} {Q : Exit → Act → World → Prop} (hgd : o.guard = none) (ty : TypeId) (x y : Operand) (ho : o.op = .store ty x y)
    (g : Nat) (A' : List Int) (hx : a.eval x = .pointer (some ⟨g, 0, none⟩)) (hy : a.eval y = .agg (cellsI A')) (T : TypeId) (A : List Int) (h : Arr w g T A)
    (hi : (P.info? ty).map (·.size) = some A'.length) (hl : A.length = A'.length)
    (hk : wpList P ops Q rest (a.put o.dst undef) (w.setRow g (cellsI A'))) : wpList P ops Q (o :: rest) a w :=
  wpList_store_row hgd ty x y ho g (cellsI A') hx hy T (cellsI A) h (by rw [cellsI_size]; exact hi) (by rw [cellsI_size, cellsI_size, hl]) (cellsI_one A') hk
/-- The same, the new world under a letter. -/
theorem wpList_store_arr' {P : Program} {ops : Array Oper} {rest : List Oper} {o : Oper} {a : Act} {w : World} {Q : Exit → Act → World → Prop} (hgd : o.guard = none) (ty : TypeId) (x y : Operand) (ho : o.op = .store ty x y)
    (g : Nat) (A' : List Int) (hx : a.eval x = .pointer (some ⟨g, 0, none⟩)) (hy : a.eval y = .agg (cellsI A')) (T : TypeId) (A : List Int) (h : Arr w g T A)
    (hi : (P.info? ty).map (·.size) = some A'.length) (hl : A.length = A'.length)
    (hk : ∀ w', Arr w' g T A' → w.grownBy w' (some g) → w'.heap.size = w.heap.size → wpList P ops Q rest (a.put o.dst undef) w') : wpList P ops Q (o :: rest) a w :=
  wpList_store_arr hgd ty x y ho g A' hx hy T A h hi hl (hk _ (h.setRow A') ⟨rfl, rfl, rfl, by simp, fun k _ hne => setRow_other w g k _ (fun e => hne (by rw [e]))⟩ (by simp))
theorem run_loadVar_arr {P : Program} {w : World} {g : Nat} {T : TypeId} {A : List Int} (h : Arr w g T A) (ty : TypeId) (n : Nat) (e : TypeId) (hu : P.underlying ty = some (.array n e)) (hi : (P.info? ty).map (·.size) = some A.length) :
    (loadVar ty ⟨g, 0, none⟩).run P w = .ok (.agg (cellsI A)) w :=
  run_loadVar_row w g T ty (cellsI A) (0, 0) _ h hu rfl (by rw [cellsI_size]; exact hi)
/-- The results 'an array in a cell, and a slot'. -/
theorem results_arr_slot {P : Program} {fn : Func} {p q : Tmp} {ty : TypeId} (h : fn.results = #[.cell p ty, .tmp q]) (tmps : Array Value) {w : World} {g : Nat} {T : TypeId} {A : List Int} (hp : tmps.getD p undef = .pointer (some ⟨g, 0, none⟩)) (v : Value) (hq : tmps.getD q undef = v)
    (hA : Arr w g T A) (n : Nat) (e : TypeId) (hu : P.underlying ty = some (.array n e)) (hi : (P.info? ty).map (·.size) = some A.length) :
    (results fn tmps).run P w = .ok (.tuple #[.agg (cellsI A), v]) w := by
  have hp' : tmps[p]?.getD undef = .pointer (some ⟨g, 0, none⟩) := by simpa using hp
  have hq' : tmps[q]?.getD undef = v := by simpa using hq
  simp [results, h, hp', hq', asAddr, run_loadVar_arr hA ty n e hu hi]
/-- An element of an array as a value. -/
theorem run_index_arr {P : Program} (w : World) (ty : TypeId) (n : Nat) (e : TypeId) (d : TypeDesc) (hu : P.underlying ty = some (.array n e)) (he : P.underlying e = some d) (hd : (match d with | .struct _ | .array _ _ => true | _ => false) = false)
    (hs : (P.info? e).map (·.size) = some 1) (A : List Int) (hl : A.length = n) (k : Nat) (hk : k < n) :
    (Instr.index ty (.agg (cellsI A)) (.int .i64 (k : Int))).run P w = .ok (.int .i64 (A.getD k 0)) w := by
  have hg := cellsI_get A k (by omega)
  have hagg : (isAgg e).run P w = .ok false w := by
    unfold isAgg
    rw [Sem.run_bind, run_underlying he w]
    cases d <;> simp_all
  cases hq : P.info? e with
  | none => simp [hq] at hs
  | some i =>
    have hi : i.size = 1 := by simpa [hq] using hs
    have h1 : (0 : Int) ≤ (k : Int) ∧ (k : Int) < (n : Int) := by omega
    simp [Instr.index, asIntOf, run_underlying hu, h1, part, hagg, sizeOf, typeInfo, hq, hi, hg, Sem.run_bind]
    intro h; omega
end Go.Proofs.Ytpaeioabmmkheaa

/- Texts of ours that stand together: ConvEng3, ConvEng4, ConvEng5 -/
import Derived.Test.YthigpbmeiblhdaaConvG
import Derived.Test.YthigpbmeiblhdaaExLib
import Derived.Test.YthigpbmeiblhdaaConvX
import Derived.Lib.AppendZeros
import Derived.Test.YthigpbmeiblhdaaSpecE0
/- The contracts of the laws' own helpers over slots and engines: copies. -/
namespace Go.Proofs.Ythigpbmeiblhdaa
open Go.RowKit
set_option linter.unusedVariables false
/-- The block Z holds six values, and may be written. -/
structure SxAt (w : World) (Z : Nat) (v0 v1 v2 v3 v4 v5 : Value) : Prop where
  c0 : w.cell? ⟨Z, 0, none⟩ = some v0
  c1 : w.cell? ⟨Z, 1, none⟩ = some v1
  c2 : w.cell? ⟨Z, 2, none⟩ = some v2
  c3 : w.cell? ⟨Z, 3, none⟩ = some v3
  c4 : w.cell? ⟨Z, 4, none⟩ = some v4
  c5 : w.cell? ⟨Z, 5, none⟩ = some v5
  f0 : w.frozen? ⟨Z, 0, none⟩ = false
  f1 : w.frozen? ⟨Z, 1, none⟩ = false
  f2 : w.frozen? ⟨Z, 2, none⟩ = false
  f3 : w.frozen? ⟨Z, 3, none⟩ = false
  f4 : w.frozen? ⟨Z, 4, none⟩ = false
  f5 : w.frozen? ⟨Z, 5, none⟩ = false
theorem SxAt.lt {w : World} {Z : Nat} {v0 v1 v2 v3 v4 v5 : Value} (h : SxAt w Z v0 v1 v2 v3 v4 v5) : Z < w.heap.size := World.block_lt_of_cell? w ⟨Z, 0, none⟩ h.c0
theorem SxAt.keep {w w' : World} {Z : Nat} {v0 v1 v2 v3 v4 v5 : Value} (h : SxAt w Z v0 v1 v2 v3 v4 v5) (hb : w'.heap[Z]? = w.heap[Z]?) : SxAt w' Z v0 v1 v2 v3 v4 v5 :=
  ⟨(World.cell?_of_block hb).trans h.c0, (World.cell?_of_block hb).trans h.c1, (World.cell?_of_block hb).trans h.c2, (World.cell?_of_block hb).trans h.c3, (World.cell?_of_block hb).trans h.c4, (World.cell?_of_block hb).trans h.c5,
   (World.frozen?_of_block hb).trans h.f0, (World.frozen?_of_block hb).trans h.f1, (World.frozen?_of_block hb).trans h.f2, (World.frozen?_of_block hb).trans h.f3, (World.frozen?_of_block hb).trans h.f4, (World.frozen?_of_block hb).trans h.f5⟩
theorem SxAt.below {w w' : World} {Z : Nat} {v0 v1 v2 v3 v4 v5 : Value} (h : SxAt w Z v0 v1 v2 v3 v4 v5) (hb : Below w.heap.size w w') : SxAt w' Z v0 v1 v2 v3 v4 v5 := h.keep (hb.block Z h.lt)
theorem sxAt_new (w : World) (T : TypeId) (v0 v1 v2 v3 v4 v5 : Value) : SxAt (w.alloc (.cells #[v0, v1, v2, v3, v4, v5] T)) w.heap.size v0 v1 v2 v3 v4 v5 := by constructor <;> simp [go_sem]
theorem SxAt.set2 {w : World} {Z : Nat} {v0 v1 v2 v3 v4 v5 : Value} (h : SxAt w Z v0 v1 v2 v3 v4 v5) (x : Value) : SxAt (w.setCell ⟨Z, 2, none⟩ x) Z v0 v1 x v3 v4 v5 := by
  constructor <;> simp [go_sem, h.c0, h.c1, h.c2, h.c3, h.c4, h.c5, h.f0, h.f1, h.f2, h.f3, h.f4, h.f5]
theorem SxAt.set3 {w : World} {Z : Nat} {v0 v1 v2 v3 v4 v5 : Value} (h : SxAt w Z v0 v1 v2 v3 v4 v5) (x y z : Value) : SxAt (((w.setCell ⟨Z, 3, none⟩ x).setCell ⟨Z, 4, none⟩ y).setCell ⟨Z, 5, none⟩ z) Z v0 v1 v2 x y z := by
  constructor <;> simp [go_sem, h.c0, h.c1, h.c2, h.c3, h.c4, h.c5, h.f0, h.f1, h.f2, h.f3, h.f4, h.f5]
theorem SxAt.set6 {w : World} {Z : Nat} {v0 v1 v2 v3 v4 v5 : Value} (h : SxAt w Z v0 v1 v2 v3 v4 v5) (x0 x1 x2 x3 x4 x5 : Value) : SxAt ((((((w.setCell ⟨Z, 0, none⟩ x0).setCell ⟨Z, 1, none⟩ x1).setCell ⟨Z, 2, none⟩ x2).setCell ⟨Z, 3, none⟩ x3).setCell ⟨Z, 4, none⟩ x4).setCell ⟨Z, 5, none⟩ x5) Z x0 x1 x2 x3 x4 x5 := by
  constructor <;> simp [go_sem, h.c0, h.c1, h.c2, h.c3, h.c4, h.c5, h.f0, h.f1, h.f2, h.f3, h.f4, h.f5]
/-- A new slot. -/
def NewSl (w : World) (tI tE : TypeId) (s : Slt) (e : Ending) (w' : World) : Prop :=
  ∃ x y z, e = .returned (slV s x y z) ∧ OwnR w' w.heap.size w'.heap.size (slRs tI tE s (x, y, z)) ∧ (∀ i ∈ s.from_, (Lit.int .i64 i).wf = true) ∧ WfE s.res.rds ∧ WfE s.res.wrs ∧ Below w.heap.size w w'
end Go.Proofs.Ythigpbmeiblhdaa
/- The contract of the laws' own helper toSlotS. -/
namespace Go.Proofs.Ythigpbmeiblhdaa
open Go.RowKit
set_option linter.unusedVariables false
theorem infoSlotC : (Try.prog.info? 71).map (fun i => (i.zero, i.size, i.bytes)) = some (some (.agg #[.int .i64 0, .int .i64 0, .slice none 0 0, .bool false, .slice none 0 0, .slice none 0 0]), 6, 96) := by kernel_rfl
/-- The first k slots are filled. -/
def fillSl (L : List Slt) (k n : Nat) : List Slt := L.take k ++ List.replicate (n - k) noSlt
def fillT (tk : List (Value × Value × Value)) (k n : Nat) : List (Value × Value × Value) := tk ++ List.replicate (n - k) nil3
theorem slsCs_append {L M : List Slt} {ts us : List (Value × Value × Value)} (h : L.length = ts.length) : slsCs (L ++ M) (ts ++ us) = slsCs L ts ++ slsCs M us := by
  unfold slsCs
  rw [List.zip_append h, List.flatMap_append]
theorem slsRs_append {tI tE : TypeId} {L M : List Slt} {ts us : List (Value × Value × Value)} (h : L.length = ts.length) : slsRs tI tE (L ++ M) (ts ++ us) = slsRs tI tE L ts ++ slsRs tI tE M us := by
  unfold slsRs
  rw [List.zip_append h, List.flatMap_append]
theorem slsCs_len {L : List Slt} {ts : List (Value × Value × Value)} (h : ts.length = L.length) : (slsCs L ts).length = L.length * 6 := by
  have := flatMap_len (fun p : Slt × (Value × Value × Value) => slCs p.1 p.2) 6 (fun _ => rfl) (L.zip ts)
  rw [List.length_zip, h, Nat.min_self] at this
  exact this
theorem set_at (A B : List Value) (m j : Nat) (x : Value) (h : A.length = m) : (A ++ B).set (m + j) x = A ++ B.set j x := by
  subst h
  rw [List.set_append_right _ _ (Nat.le_add_right _ _), Nat.add_sub_cancel_left]
theorem take_one (L : List Slt) (k : Nat) (h : k < L.length) : L.take (k + 1) = L.take k ++ [L.getD k noSlt] := by
  rw [List.take_succ_eq_append_getElem h, List.getD_eq_getElem?_getD, List.getElem?_eq_getElem h]; rfl
theorem fill_step {L : List Slt} {n k : Nat} {tk : List (Value × Value × Value)} (hL : L.length = n) (ht : tk.length = k) (hk : k < n) (s : Slt) (hs : s = L.getD k noSlt) (x y z : Value) :
    ((((((slsCs (fillSl L k n) (fillT tk k n)).set (k * 6) (.int .i64 s.stage)).set (k * 6 + 1) (.int .i64 s.tries)).set (k * 6 + 2) x).set (k * 6 + 3) (.bool s.res.done)).set (k * 6 + 4) y).set (k * 6 + 5) z = slsCs (fillSl L (k + 1) n) (fillT (tk ++ [(x, y, z)]) (k + 1) n) := by
  have h1 : (L.take k).length = tk.length := by rw [List.length_take, ht]; omega
  have hA : (slsCs (L.take k) tk).length = k * 6 := by rw [slsCs_len h1.symm, List.length_take]; congr 1; omega
  have e0 : n - k = (n - (k + 1)) + 1 := by omega
  unfold fillSl fillT
  rw [slsCs_append h1, e0, List.replicate_succ, List.replicate_succ, take_one L k (by omega), List.append_assoc, List.append_assoc, slsCs_append h1, ← hs]
  have e1 : slsCs (noSlt :: List.replicate (n - (k + 1)) noSlt) (nil3 :: List.replicate (n - (k + 1)) nil3) = slCs noSlt nil3 ++ slsCs (List.replicate (n - (k + 1)) noSlt) (List.replicate (n - (k + 1)) nil3) := by simp [slsCs]
  have e2 : slsCs ([s] ++ List.replicate (n - (k + 1)) noSlt) ([(x, y, z)] ++ List.replicate (n - (k + 1)) nil3) = slCs s (x, y, z) ++ slsCs (List.replicate (n - (k + 1)) noSlt) (List.replicate (n - (k + 1)) nil3) := by simp [slsCs]
  rw [e1, e2]
  have z0 := fun B x => set_at (slsCs (L.take k) tk) B (k * 6) 0 x hA
  simp only [Nat.add_zero] at z0
  rw [z0, set_at _ _ _ _ _ hA, set_at _ _ _ _ _ hA, set_at _ _ _ _ _ hA, set_at _ _ _ _ _ hA, set_at _ _ _ _ _ hA]
  simp [slCs]
/-- New slots. -/
def NewSls (w : World) (tS tI tE : TypeId) (L : List Slt) (e : Ending) (w' : World) : Prop :=
  ∃ v ts, e = .returned v ∧ ts.length = L.length ∧ OwnR w' w.heap.size w'.heap.size (⟨v, tS, 6, L.length, slsCs L ts⟩ :: slsRs tI tE L ts) ∧ Below w.heap.size w w'
theorem owns_curS {w : World} {B : Nat} {e : TypeId} {size g cap n : Nat} {xs : List Value} (h : w.ownsRow B e size (.slice (some ⟨g, 0, none⟩) n cap) n xs) :
    ∃ cur, w.heap[g]? = some (.cells cur e (0, 0)) := by
  rcases h.2 with ⟨h', _⟩ | ⟨g', cap', cur, h', hb, hg, _⟩
  · simp at h'
  · simp only [Value.slice.injEq, Option.some.injEq, Addr.mk.injEq, and_true, true_and] at h'
    obtain ⟨rfl, rfl⟩ := h'
    exact ⟨cur, hg⟩
theorem some_at {xs : List Value} {i : Nat} (h : i < xs.length) : ∃ v, xs[i]? = some v := ⟨xs[i], List.getElem?_eq_getElem h⟩
theorem sumSl_len (L : List Slt) (k : Nat) (h : k < L.length) : wtS (L.getD k noSlt) ≤ sumSl L := by
  have := sumSl_next L k h; have := sumSl_take L (k + 1); omega
end Go.Proofs.Ythigpbmeiblhdaa
/- The contract of the laws' own helper toEngine. -/
namespace Go.Proofs.Ythigpbmeiblhdaa
open Go.RowKit
set_option linter.unusedVariables false
/-- What is read has numbers of an int. -/
theorem engWf_rd {w : World} {v1 v2 v3 v4 : Value} {e : Eng} (h : EngRd w v1 v2 v3 v4 e) (hn : wtEng e ≤ 1048576) : EngWf e := by
  obtain ⟨⟨a1, n1, c1, -, r1, -, -⟩, ⟨a2, n2, c2, -, r2, -, -⟩, ⟨a3, n3, c3, -, r3, -, -⟩, a4, n4, c4, -, r4, -, -⟩ := h
  unfold wtEng wtSl at hn
  refine ⟨r1.2.2.2, r2.2.2.2, r3.2.2.2, fun s hs => ?_, by omega, by omega, by omega, by omega⟩
  obtain ⟨i, hi, rfl⟩ := List.getElem_of_mem hs
  have hg : e.slots.getD i noSlt = e.slots[i] := by rw [List.getD_eq_getElem?_getD, List.getElem?_eq_getElem hi]; rfl
  obtain ⟨b, off, -, hc⟩ := r4.2.2.1 (by rw [← r4.1]; omega)
  have hi4 : i < n4 := by rw [← r4.1]; exact hi
  obtain ⟨-, -, ⟨x, -, hx⟩, -, ⟨y, -, hy⟩, z, -, hz⟩ := hc i hi4
  have hw := sumSl_len e.slots i hi
  have hbd := r4.2.2.2 _ hs
  rw [hg] at hx hy hz hw
  unfold wtS at hw
  obtain ⟨_, _, _, -, rx, -, -⟩ := hx
  obtain ⟨_, _, _, -, ry, -, -⟩ := hy
  obtain ⟨_, _, _, -, rz, -, -⟩ := hz
  exact ⟨hbd.1, hbd.2, rx.2.2.2, ry.2.2.2, rz.2.2.2, by omega, by omega, by omega⟩
/-- A copy of an engine under way: what comes in, the answer, the copy, its rows. -/
structure Te (w W : World) (v1 v2 v3 v4 u1 u2 u3 u4 : Value) (R : List Rw) : Prop where
  inn : EgAt W w.heap.size v1 v2 v3 v4
  ans : EgAt W (w.heap.size + 1) (.slice none 0 0) (.slice none 0 0) (.slice none 0 0) (.slice none 0 0)
  cpy : EgAt W (w.heap.size + 1 + 1) u1 u2 u3 u4
  own : OwnR W (w.heap.size + 3) W.heap.size R
  below : Below w.heap.size w W
  size : w.heap.size + 3 ≤ W.heap.size
theorem Te.add {w W W' : World} {v1 v2 v3 v4 u1 u2 u3 u4 : Value} {R R2 : List Rw} (h : Te w W v1 v2 v3 v4 u1 u2 u3 u4 R) (hb : Below W.heap.size W W') (h2 : OwnR W' W.heap.size W'.heap.size R2) : Te w W' v1 v2 v3 v4 u1 u2 u3 u4 (R ++ R2) :=
  ⟨h.inn.below hb, h.ans.below hb, h.cpy.below hb, (h.own.below hb).append h2 (Nat.le_refl _) h.size hb.size, h.below.trans (hb.mono h.below.size), Nat.le_trans h.size hb.size⟩
theorem Te.put {w W : World} {v1 v2 v3 v4 u1 u2 u3 u4 x1 x2 x3 x4 : Value} {R : List Rw} (h : Te w W v1 v2 v3 v4 u1 u2 u3 u4 R) (i : Nat) (x : Value) (hc : EgAt (W.setCell ⟨w.heap.size + 1 + 1, i, none⟩ x) (w.heap.size + 1 + 1) x1 x2 x3 x4) : Te w (W.setCell ⟨w.heap.size + 1 + 1, i, none⟩ x) v1 v2 v3 v4 x1 x2 x3 x4 R := by
  have hk : ∀ b, b ≠ w.heap.size + 1 + 1 → (W.setCell ⟨w.heap.size + 1 + 1, i, none⟩ x).heap[b]? = W.heap[b]? := fun b hb => Below.heap_setCell _ _ _ _ (by simpa using hb)
  refine ⟨h.inn.keep (hk _ (by omega)), h.ans.keep (hk _ (by omega)), hc, ?_, h.below.setCell (by simp; omega) x, by simpa [World.setCell] using h.size⟩
  have := h.own.keep (w' := W.setCell ⟨w.heap.size + 1 + 1, i, none⟩ x) fun r hr b hb => hk b (by have := (h.own.ge hr hb).1; omega)
  exact this.mono (Nat.le_refl _) (by simp [World.setCell])
theorem ownR_one {w : World} {B : Nat} {r : Rw} (h : w.ownsRow B r.e r.size r.v r.n r.cs) : OwnR w B w.heap.size [r] :=
  (OwnR.nil w B w.heap.size).cons r h (fun b hb => by rw [owns_blk h] at hb; exact (h.lt b hb).2) (fun x hx => by cases hx)
end Go.Proofs.Ythigpbmeiblhdaa

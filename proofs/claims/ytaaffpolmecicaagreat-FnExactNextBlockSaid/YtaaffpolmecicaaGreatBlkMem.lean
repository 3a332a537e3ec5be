/- Blocks in memory: a value of six cells, one of them a row of actions. No function of the program is named here. -/
import Derived.Test.YtaaffpolmecicaaGreatBlkMath
import Derived.Test.YtaaffpolmecicaaGreatActs
import Derived.Test.YtaaffpolmecicaaGreatEffA
namespace Go.Proofs.YtaaffpolmecicaaGreat
open Go.RowKit
set_option linter.unusedVariables false
/-- The numbers of a block are an int's. -/
def WfB (b : Blk) : Prop := (Lit.int .i64 b.bef).wf = true ∧ (Lit.int .i64 b.hgt).wf = true ∧ (Lit.int .i64 b.view).wf = true ∧ (Lit.int .i64 b.root).wf = true ∧ (Lit.int .i64 b.effs).wf = true
/-- A block as a value, its row of actions v. -/
abbrev blkV (b : Blk) (v : Value) : Value := .agg #[.int .i64 b.bef, .int .i64 b.hgt, .int .i64 b.view, v, .int .i64 b.root, .int .i64 b.effs]
/-- The block Z holds six values, and may be written. -/
structure BkAt (w : World) (Z : Nat) (v0 v1 v2 v3 v4 v5 : Value) : Prop where
  c0 : w.cell? ⟨Z, 0, none⟩ = some v0
  c1 : w.cell? ⟨Z, 1, none⟩ = some v1
  c2 : w.cell? ⟨Z, 2, none⟩ = some v2
  c3 : w.cell? ⟨Z, 3, none⟩ = some v3
  c4 : w.cell? ⟨Z, 4, none⟩ = some v4
  c5 : w.cell? ⟨Z, 5, none⟩ = some v5
  f0 : w.frozen? ⟨Z, 0, none⟩ = false
  f1 : w.frozen? ⟨Z, 1, none⟩ = false
  f2 : w.frozen? ⟨Z, 2, none⟩ = false
  f3 : w.frozen? ⟨Z, 3, none⟩ = false
  f4 : w.frozen? ⟨Z, 4, none⟩ = false
  f5 : w.frozen? ⟨Z, 5, none⟩ = false
theorem BkAt.lt {w : World} {Z : Nat} {v0 v1 v2 v3 v4 v5 : Value} (h : BkAt w Z v0 v1 v2 v3 v4 v5) : Z < w.heap.size := World.block_lt_of_cell? w ⟨Z, 0, none⟩ h.c0
theorem BkAt.keep {w w' : World} {Z : Nat} {v0 v1 v2 v3 v4 v5 : Value} (h : BkAt w Z v0 v1 v2 v3 v4 v5) (hb : w'.heap[Z]? = w.heap[Z]?) : BkAt w' Z v0 v1 v2 v3 v4 v5 :=
  ⟨(World.cell?_of_block hb).trans h.c0, (World.cell?_of_block hb).trans h.c1, (World.cell?_of_block hb).trans h.c2, (World.cell?_of_block hb).trans h.c3, (World.cell?_of_block hb).trans h.c4, (World.cell?_of_block hb).trans h.c5,
   (World.frozen?_of_block hb).trans h.f0, (World.frozen?_of_block hb).trans h.f1, (World.frozen?_of_block hb).trans h.f2, (World.frozen?_of_block hb).trans h.f3, (World.frozen?_of_block hb).trans h.f4, (World.frozen?_of_block hb).trans h.f5⟩
theorem BkAt.below {w w' : World} {Z : Nat} {v0 v1 v2 v3 v4 v5 : Value} (h : BkAt w Z v0 v1 v2 v3 v4 v5) (hb : Below w.heap.size w w') : BkAt w' Z v0 v1 v2 v3 v4 v5 := h.keep (hb.block Z h.lt)
theorem BkAt.grown {w w' : World} {Z : Nat} {row : Option Nat} {v0 v1 v2 v3 v4 v5 : Value} (h : BkAt w Z v0 v1 v2 v3 v4 v5) (hg : w.grownBy w' row) (hne : some Z ≠ row) : BkAt w' Z v0 v1 v2 v3 v4 v5 := h.keep (hg.block Z h.lt hne)
theorem bkAt_new (w : World) (T : TypeId) (v0 v1 v2 v3 v4 v5 : Value) : BkAt (w.alloc (.cells #[v0, v1, v2, v3, v4, v5] T)) w.heap.size v0 v1 v2 v3 v4 v5 := by constructor <;> simp [go_sem]
theorem BkAt.set6 {w : World} {Z : Nat} {v0 v1 v2 v3 v4 v5 : Value} (h : BkAt w Z v0 v1 v2 v3 v4 v5) (x0 x1 x2 x3 x4 x5 : Value) : BkAt ((((((w.setCell ⟨Z, 0, none⟩ x0).setCell ⟨Z, 1, none⟩ x1).setCell ⟨Z, 2, none⟩ x2).setCell ⟨Z, 3, none⟩ x3).setCell ⟨Z, 4, none⟩ x4).setCell ⟨Z, 5, none⟩ x5) Z x0 x1 x2 x3 x4 x5 := by
  constructor <;> simp [go_sem, h.c0, h.c1, h.c2, h.c3, h.c4, h.c5, h.f0, h.f1, h.f2, h.f3, h.f4, h.f5]
theorem BkAt.set45 {w : World} {Z : Nat} {v0 v1 v2 v3 v4 v5 : Value} (h : BkAt w Z v0 v1 v2 v3 v4 v5) (x4 x5 : Value) : BkAt ((w.setCell ⟨Z, 4, none⟩ x4).setCell ⟨Z, 5, none⟩ x5) Z v0 v1 v2 v3 x4 x5 := by
  constructor <;> simp [go_sem, h.c0, h.c1, h.c2, h.c3, h.c4, h.c5, h.f0, h.f1, h.f2, h.f3, h.f4, h.f5]
theorem BkAt.set345 {w : World} {Z : Nat} {v0 v1 v2 v3 v4 v5 : Value} (h : BkAt w Z v0 v1 v2 v3 v4 v5) (x3 x4 x5 : Value) : BkAt (((w.setCell ⟨Z, 3, none⟩ x3).setCell ⟨Z, 4, none⟩ x4).setCell ⟨Z, 5, none⟩ x5) Z v0 v1 v2 x3 x4 x5 := by
  constructor <;> simp [go_sem, h.c0, h.c1, h.c2, h.c3, h.c4, h.c5, h.f0, h.f1, h.f2, h.f3, h.f4, h.f5]
theorem results_blk {fn : Func} {p : Tmp} (h : fn.results = #[.cell p 31]) (tmps : Array Value) {F : World} {Z : Nat} (hp : tmps.getD p undef = .pointer (some ⟨Z, 0, none⟩)) {v0 v1 v2 v3 v4 v5 : Value} (hc : BkAt F Z v0 v1 v2 v3 v4 v5) : (results fn tmps).run Tryz.prog F = .ok (.agg #[v0, v1, v2, v3, v4, v5]) F := by
  have hp' : tmps[p]?.getD undef = .pointer (some ⟨Z, 0, none⟩) := by simpa using hp
  obtain ⟨c0, c1, c2, c3, c4, c5, -⟩ := hc
  simp [results, h, hp', asAddr, go_sem, c0, c1, c2, c3, c4, c5]
theorem results_blkB {fn : Func} {p q : Tmp} (h : fn.results = #[.cell p 31, .tmp q]) (tmps : Array Value) {F : World} {Z : Nat} (hp : tmps.getD p undef = .pointer (some ⟨Z, 0, none⟩)) {v0 v1 v2 v3 v4 v5 : Value} (hc : BkAt F Z v0 v1 v2 v3 v4 v5) (x : Value) (hq : tmps.getD q undef = x) : (results fn tmps).run Tryz.prog F = .ok (.tuple #[.agg #[v0, v1, v2, v3, v4, v5], x]) F := by
  have hp' : tmps[p]?.getD undef = .pointer (some ⟨Z, 0, none⟩) := by simpa using hp
  have hq' : tmps[q]?.getD undef = x := by simpa using hq
  obtain ⟨c0, c1, c2, c3, c4, c5, -⟩ := hc
  simp [results, h, hp', hq', asAddr, go_sem, c0, c1, c2, c3, c4, c5]
theorem below_set6 {B : Nat} {a w : World} (h : Below B a w) {Z : Nat} (hz : B ≤ Z) (x0 x1 x2 x3 x4 x5 : Value) : Below B a ((((((w.setCell ⟨Z, 0, none⟩ x0).setCell ⟨Z, 1, none⟩ x1).setCell ⟨Z, 2, none⟩ x2).setCell ⟨Z, 3, none⟩ x3).setCell ⟨Z, 4, none⟩ x4).setCell ⟨Z, 5, none⟩ x5) :=
  (((((h.setCell hz x0).setCell hz x1).setCell hz x2).setCell hz x3).setCell hz x4).setCell hz x5
theorem owns_set6 {w : World} {B : Nat} {e : TypeId} {size n : Nat} {v : Value} {xs : List Value} (h : w.ownsRow B e size v n xs) {Z : Nat} (hz : v.ownBlock ≠ some Z) (x0 x1 x2 x3 x4 x5 : Value) : ((((((w.setCell ⟨Z, 0, none⟩ x0).setCell ⟨Z, 1, none⟩ x1).setCell ⟨Z, 2, none⟩ x2).setCell ⟨Z, 3, none⟩ x3).setCell ⟨Z, 4, none⟩ x4).setCell ⟨Z, 5, none⟩ x5).ownsRow B e size v n xs :=
  owns_set (owns_set (owns_set (owns_set (owns_set (owns_set h hz _ _) hz _ _) hz _ _) hz _ _) hz _ _) hz _ _
/-- A new block: its row of actions is owned from where the heap ended, or nil. -/
def NewBk (w : World) (eA : TypeId) (b : Blk) (e : Ending) (w' : World) : Prop :=
  ∃ v, e = .returned (blkV b v) ∧ w'.ownsRow w.heap.size eA 4 v b.acts.length (flatA b.acts) ∧ WfAs b.acts ∧ WfB b ∧ Below w.heap.size w w'
/-- A new block, and whether there is one. -/
def NewBkB (w : World) (eA : TypeId) (b : Blk) (ok : Bool) (e : Ending) (w' : World) : Prop :=
  ∃ v, e = .returned (.tuple #[blkV b v, .bool ok]) ∧ w'.ownsRow w.heap.size eA 4 v b.acts.length (flatA b.acts) ∧ WfAs b.acts ∧ WfB b ∧ Below w.heap.size w w'
theorem wfB_no : WfB noBlk := ⟨rfl, rfl, rfl, rfl, rfl⟩
theorem wfB_run {b : Blk} (S : List Ent) (h : WfB b) : WfB (blkRun b S) := by
  obtain ⟨h1, h2, h3, -, -⟩ := h
  have a := rootM_bd (serM S b.acts).1
  have c := effsSumM_bd (serM S b.acts).2
  exact ⟨h1, h2, h3, WalkArith.wf_i64 (by show _ ∧ _; simp only [blkRun]; omega), WalkArith.wf_i64 (by simp only [blkRun]; omega)⟩
theorem newBk_zero (w : World) (B : Nat) (eA : TypeId) : w.ownsRow B eA 4 (.slice none 0 0) noBlk.acts.length (flatA noBlk.acts) := World.ownsRow_nil _ _ _ _
end Go.Proofs.YtaaffpolmecicaaGreat

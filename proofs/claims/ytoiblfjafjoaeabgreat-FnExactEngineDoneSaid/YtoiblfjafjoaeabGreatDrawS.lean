/- Texts of ours that stand together: Pick, DrawStore, DrawStores -/
import Derived.Test.YtoiblfjafjoaeabGreatCore
import Derived.Test.YtoiblfjafjoaeabGreatSpecS
/- The contract of the reader's pick and odd. -/
namespace Go.Proofs.YtoiblfjafjoaeabGreat
open Go.RowKit
theorem rdr_step {w : World} {R : Nat} {a : Option Addr} {len cap : Nat} {z : List Int} {p : Nat} (h : Rdr w R a len cap z p) :
    Rdr (w.setCell ⟨R, 1, none⟩ (.int .i64 ((p : Int) + 1))) R a len cap z (p + 1) ∧ Upd R w (w.setCell ⟨R, 1, none⟩ (.int .i64 ((p : Int) + 1))) := by
  obtain ⟨h1, h2, h3, h4, h5, h6, h7, h8, h9, h10⟩ := h
  have hu := (Upd.refl R w).setCell 1 (.int .i64 ((p : Int) + 1))
  refine ⟨⟨?_, ?_, ?_, h4, h5, h6, h7, h8, fun hl => ?_, h10⟩, hu⟩
  · rw [← h1]; simp [go_sem]
  · simp [go_sem, h2]
  · simpa [go_sem] using h3
  · obtain ⟨b, off, he, hc⟩ := h9 hl
    exact ⟨b, off, he, fun i hi => hu.cell (hc i hi) (Nat.ne_of_lt (h6 hl b off he))⟩
theorem rdr_drewN {w : World} {R : Nat} {a : Option Addr} {len cap : Nat} {z : List Int} {p : Nat} (h : Rdr w R a len cap z p) (n : Nat) : Rdr (w.drewN n) R a len cap z p := h
/-- pick at a positive bound. -/
def Pk (w : World) (R P : Nat) (n : Int) (e : Ending) (w' : World) : Prop :=
  ∃ x : Int, e = .returned (.int .i64 x) ∧ 0 ≤ x ∧ x < n ∧ Rd w' R (P + 1) ∧ Upd R w w'
/-- What odd gives: some bool, the reader at most one place further, nothing else turned. -/
def Odd (w : World) (R P : Nat) (e : Ending) (w' : World) : Prop :=
  ∃ x : Bool, e = .returned (.bool x) ∧ Rd w' R (P + 1) ∧ Upd R w w'
/-- A new reader: its block is the newest. -/
def Opened (w : World) (e : Ending) (w' : World) : Prop :=
  ∃ R, e = .returned (.pointer (some ⟨R, 0, none⟩)) ∧ w.heap.size ≤ R ∧ Rd w' R 0 ∧ Below w.heap.size w w' ∧ R < w'.heap.size
theorem opened_alloc {w : World} {a : Option Addr} {len cap : Nat} {z : List Int} (T : TypeId) (h : RowB w a len z) (hl : len ≤ 2000) :
    Opened w (.returned (.pointer (some ⟨w.heap.size, 0, none⟩))) (w.alloc (.cells #[.slice a len cap, .int .i64 0] T)) := by
  have hb := (Below.refl w.heap.size w).alloc (Nat.le_refl _) (.cells #[.slice a len cap, .int .i64 0] T)
  refine ⟨w.heap.size, rfl, Nat.le_refl _, ⟨a, len, cap, z, 0, ⟨?_, ?_, ?_, hl, h.1, ?_, h.1, h.2.1, fun h0 => ?_, h.2.2.2⟩, Nat.le_refl _⟩, hb, by simp⟩
  · simp [go_sem]
  · simp [go_sem]
  · simp [go_sem]
  · intro h0 b o he
    obtain ⟨b', off, he', hc⟩ := h.2.2.1 h0
    rw [he] at he'
    simp at he'
    have := World.block_lt_of_cell? w ⟨b', off + 0, none⟩ (hc 0 h0)
    simp at this
    omega
  · obtain ⟨b', off, he', hc⟩ := h.2.2.1 h0
    refine ⟨b', off, he', fun i hi => ?_⟩
    have hlt : b' < w.heap.size := World.block_lt_of_cell? w ⟨b', off + i, none⟩ (hc i hi)
    rw [hb.cell (p := ⟨b', off + i, none⟩) hlt]
    exact hc i hi
end Go.Proofs.YtoiblfjafjoaeabGreat
/- The contracts of the draws of a key, a value and a store. -/
namespace Go.Proofs.YtoiblfjafjoaeabGreat
open Go.RowKit
set_option linter.unusedVariables false
/-- A number in lo..hi; the reader has read at most c places more; nothing else has turned. -/
def DrawI (w : World) (R P c : Nat) (lo hi : Int) (e : Ending) (w' : World) : Prop :=
  ∃ x : Int, e = .returned (.int .i64 x) ∧ lo ≤ x ∧ x ≤ hi ∧ Rd w' R (P + c) ∧ Upd R w w'
/-- A drawn list of entries, of the call's own. -/
def DrawE (w : World) (R P c : Nat) (e0 : TypeId) (e : Ending) (w' : World) : Prop :=
  ∃ (v : Value) (l : List Ent), e = .returned v ∧ Own w' w.heap.size e0 2 v l.length (flatE l) ∧ WfE l ∧ l.length ≤ 1000 ∧ Rd w' R (P + c) ∧ Upd R w w'
theorem Rd.below {w w' : World} {R P : Nat} (h : Rd w R P) (hb : Below w.heap.size w w') : Rd w' R P := h.grown (row := none) (Below.grownBy hb none) (fun k hk => by cases hk)
theorem Upd.ofBelow {w w' : World} (R : Nat) (hb : Below w.heap.size w w') : Upd R w w' := Below.grownBy hb (some R)
theorem Own.upd {w w' : World} {B R : Nat} {e : TypeId} {size n : Nat} {v : Value} {xs : List Value} (h : Own w B e size v n xs) (hu : Upd R w w') (hR : R < B) : Own w' B e size v n xs := h.grown hu (fun k hk => by simp at hk; omega)
/-- An append to what the call itself owns. -/
theorem Upd.ofGrown {w0 w1 w' W : World} {R n : Nat} {e : TypeId} {size : Nat} {v : Value} {xs : List Value} (h : Upd R w0 w1) (hg : w1.grownBy w' v.ownBlock) (ho : Own W w0.heap.size e size v n xs) : Upd R w0 w' :=
  ⟨hg.os.trans h.os, hg.tape.trans h.tape, hg.output.trans h.output, Nat.le_trans h.size hg.size, fun k hk hr =>
    (hg.block k (Nat.lt_of_lt_of_le hk h.size) (fun e => by have := (ho.1.lt k e.symm).1; omega)).trans (h.block k hk hr)⟩
end Go.Proofs.YtoiblfjafjoaeabGreat
/- The contracts of the draws of chapter 2. -/
namespace Go.Proofs.YtoiblfjafjoaeabGreat
open Go.RowKit
set_option linter.unusedVariables false
/-- A drawn list of entries. -/
def EntsD (w : World) (e0 : TypeId) (e : Ending) (w' : World) : Prop :=
  ∃ (v : Value) (l : List Ent), e = .returned v ∧ Own w' w.heap.size e0 2 v l.length (flatE l) ∧ WfE l ∧ l.length ≤ 1000 ∧ Below w.heap.size w w'
/-- .. and a number. -/
def EntsID (w : World) (e0 : TypeId) (e : Ending) (w' : World) : Prop :=
  ∃ (v : Value) (l : List Ent) (x : Int), e = .returned (.tuple #[v, .int .i64 x]) ∧ Own w' w.heap.size e0 2 v l.length (flatE l) ∧ WfE l ∧ l.length ≤ 1000 ∧ -10 ≤ x ∧ x ≤ 1000010 ∧ Below w.heap.size w w'
/-- .. and two numbers. -/
def EntsIID (w : World) (e0 : TypeId) (e : Ending) (w' : World) : Prop :=
  ∃ (v : Value) (l : List Ent) (x y : Int), e = .returned (.tuple #[v, .int .i64 x, .int .i64 y]) ∧ Own w' w.heap.size e0 2 v l.length (flatE l) ∧ WfE l ∧ l.length ≤ 1000 ∧ -10 ≤ x ∧ x ≤ 1000010 ∧ -10 ≤ y ∧ y ≤ 1000010 ∧ Below w.heap.size w w'
/-- Two drawn lists of entries. -/
def EntsEntsD (w : World) (e0 : TypeId) (e : Ending) (w' : World) : Prop :=
  ∃ (v v' : Value) (l l' : List Ent), e = .returned (.tuple #[v, v']) ∧ Own w' w.heap.size e0 2 v l.length (flatE l) ∧ WfE l ∧ l.length ≤ 1000 ∧ Own w' w.heap.size e0 2 v' l'.length (flatE l') ∧ WfE l' ∧ l'.length ≤ 2000 ∧ Below w.heap.size w w'
def dvSlots (R : Nat) (v : Value) : Nat → SK
  | 10 => .is (v)
  | 11 => .is (.pointer (some ⟨R, 0, none⟩))
  | 12 => .int 0 31
  | 13 => .lit 3 (-1) 32
  | 14 => .lit 6 0 2
  | 15 => .is (.pointer (some ⟨R, 0, none⟩))
  | 16 => .int 0 5
  | 17 => .to 0 2
  | 18 => .int 0 2
  | 19 => .to (-1) 32
  | 20 => .int (-1) 32
  | 2 => .is (v)
  | 3 => .int (-1) 32
  | _ => .any
def dpSlots (R : Nat) (v : Value) (y : Int) : Nat → SK
  | 22 => .is (v)
  | 23 => .is (.int .i64 y)
  | 24 => .is (.pointer (some ⟨R, 0, none⟩))
  | 25 => .int 0 1000000
  | 26 => .lit 3 (-1) 1000001
  | 27 => .lit 6 0 2
  | 28 => .is (.pointer (some ⟨R, 0, none⟩))
  | 29 => .int 0 5
  | 30 => .to 0 2
  | 31 => .int 0 2
  | 32 => .to (-1) 1000001
  | 33 => .int (-1) 1000001
  | 2 => .is (v)
  | 3 => .is (.int .i64 y)
  | 4 => .int (-1) 1000001
  | _ => .any
end Go.Proofs.YtoiblfjafjoaeabGreat

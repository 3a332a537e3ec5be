/- Rows of entries (pairs of ints) in memory. -/
import Derived.Test.YtpaeioabmmkheaaBase
import Derived.Test.YtpaeioabmmkheaaStoreMath
namespace Go.Proofs.Ytpaeioabmmkheaa
open Go.RowKit
/-- The slice (a, n) reads as the pairs l. -/
def RowE (w : World) (a : Option Addr) (n : Nat) (l : List Ent) : Prop :=
  l.length = n ∧ n ≤ maxLen ∧ (0 < n → ∃ b off, a = some ⟨b, off, none⟩ ∧ ∀ i, i < n → w.cell? ⟨b, off + i * 2, none⟩ = some (.int .i64 (l.getD i (0, 0)).1) ∧ w.cell? ⟨b, off + i * 2 + 1, none⟩ = some (.int .i64 (l.getD i (0, 0)).2)) ∧
  ∀ e ∈ l, (Lit.int .i64 e.1).wf = true ∧ (Lit.int .i64 e.2).wf = true
theorem RowE.below {w w' : World} {a : Option Addr} {n : Nat} {l : List Ent} (h : RowE w a n l) (hb : Below w.heap.size w w') : RowE w' a n l := by
  obtain ⟨h1, h2, h3, h4⟩ := h
  refine ⟨h1, h2, fun hl => ?_, h4⟩
  obtain ⟨b, off, he, hc⟩ := h3 hl
  refine ⟨b, off, he, fun i hi => ?_⟩
  have hlt : b < w.heap.size := World.block_lt_of_cell? w ⟨b, off + i * 2, none⟩ (hc i hi).1
  rw [hb.cell (p := ⟨b, off + i * 2, none⟩) hlt, hb.cell (p := ⟨b, off + i * 2 + 1, none⟩) hlt]
  exact hc i hi
theorem RowE.drewN {w : World} {a : Option Addr} {n : Nat} {l : List Ent} (h : RowE w a n l) (m : Nat) : RowE (w.drewN m) a n l := h
theorem rowE_empty (w : World) (a : Option Addr) : RowE w a 0 [] := ⟨rfl, by unfold maxLen; omega, fun h => absurd h (by omega), fun n hn => by cases hn⟩
theorem getD_memE (l : List Ent) (k : Nat) (h : k < l.length) : l.getD k (0, 0) ∈ l := by
  rw [List.getD_eq_getElem?_getD, List.getElem?_eq_getElem h]; exact List.getElem_mem h
theorem RowE.bd {w : World} {a : Option Addr} {n : Nat} {l : List Ent} (h : RowE w a n l) (k : Nat) (hk : k < n) :
    (-9223372036854775808 ≤ (l.getD k (0, 0)).1 ∧ (l.getD k (0, 0)).1 ≤ 9223372036854775807) ∧ (-9223372036854775808 ≤ (l.getD k (0, 0)).2 ∧ (l.getD k (0, 0)).2 ≤ 9223372036854775807) :=
  have := h.2.2.2 _ (getD_memE l k (by rw [h.1]; exact hk))
  ⟨wf_i64_bd this.1, wf_i64_bd this.2⟩
/-- Only draws lie between w and w'. -/
def Drawn (w w' : World) : Prop := ∃ m, w' = w.drewN m
theorem Drawn.refl (w : World) : Drawn w w := ⟨0, rfl⟩
theorem Drawn.cell {w w' : World} (h : Drawn w w') (a : Addr) : w'.cell? a = w.cell? a := by obtain ⟨m, rfl⟩ := h; rfl
theorem Drawn.drewN {w w' : World} (h : Drawn w w') (m : Nat) : Drawn w (w'.drewN m) := by obtain ⟨k, rfl⟩ := h; exact ⟨_, World.drewN_drewN _ _ _⟩
theorem Drawn.trans {a b c : World} (h : Drawn a b) (k : Drawn b c) : Drawn a c := by obtain ⟨m, rfl⟩ := k; exact h.drewN m
theorem Drawn.below {w w' : World} (h : Drawn w w') (B : Nat) : Below B w w' := by obtain ⟨m, rfl⟩ := h; exact below_drewN' (Below.refl _ _) m
/-- A bool, and only draws. -/
def BoolQ (b : Bool) (w : World) (e : Ending) (w' : World) : Prop := e = .returned (.bool b) ∧ Drawn w w'
/-- An int, and only draws. -/
def IntQ (n : Int) (w : World) (e : Ending) (w' : World) : Prop := e = .returned (.int .i64 n) ∧ Drawn w w'
end Go.Proofs.Ytpaeioabmmkheaa

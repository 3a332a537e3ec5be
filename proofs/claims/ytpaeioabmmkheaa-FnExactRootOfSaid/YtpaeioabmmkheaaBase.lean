/- General words for rows of integers in memory and small facts on worlds; no function of the program is named here. -/
import Derived.Test.YtpaeioabmmkheaaRows
import Derived.WalkKit
import Derived.Lib.Hide
import Derived.Deep.QuietTactic
import Derived.BigQuiet
import Derived.WalkSmall
import Derived.WalkSpells
namespace Go.Proofs.Ytpaeioabmmkheaa
open Go.RowKit

/-- The slice (a, len) reads as the list l of ints in the world w. -/
def RowI (w : World) (a : Option Addr) (len : Nat) (l : List Int) : Prop :=
  l.length = len ∧ len ≤ maxLen ∧ (0 < len → ∃ b off, a = some ⟨b, off, none⟩ ∧ ∀ i, i < len → w.cell? ⟨b, off + i, none⟩ = some (.int .i64 (l.getD i 0))) ∧ ∀ n ∈ l, (Lit.int .i64 n).wf = true

theorem RowI.below {w w' : World} {a : Option Addr} {len : Nat} {l : List Int} (h : RowI w a len l) (hb : Below w.heap.size w w') : RowI w' a len l := by
  obtain ⟨h1, h2, h3, h4⟩ := h
  refine ⟨h1, h2, fun hl => ?_, h4⟩
  obtain ⟨b, off, he, hc⟩ := h3 hl
  refine ⟨b, off, he, fun i hi => ?_⟩
  have hlt : b < w.heap.size := World.block_lt_of_cell? w ⟨b, off + i, none⟩ (hc i hi)
  rw [hb.cell (p := ⟨b, off + i, none⟩) hlt]
  exact hc i hi

theorem wf_i64_bd {n : Int} (h : (Lit.int .i64 n).wf = true) : -9223372036854775808 ≤ n ∧ n ≤ 9223372036854775807 := by
  simpa [Lit.wf, IntKind.min, IntKind.max, IntKind.signed, IntKind.bits] using h

theorem getD_mem (l : List Int) (k : Nat) (h : k < l.length) : l.getD k 0 ∈ l := by
  rw [List.getD_eq_getElem?_getD, List.getElem?_eq_getElem h]; exact List.getElem_mem h

theorem RowI.bd {w : World} {a : Option Addr} {len : Nat} {l : List Int} (h : RowI w a len l) (k : Nat) (hk : k < len) : -9223372036854775808 ≤ l.getD k 0 ∧ l.getD k 0 ≤ 9223372036854775807 :=
  wf_i64_bd (h.2.2.2 _ (getD_mem l k (by rw [h.1]; exact hk)))

theorem take_snoc (l : List Int) (k : Nat) (h : k < l.length) : l.take (k + 1) = l.take k ++ [l.getD k 0] := by
  rw [List.take_succ_eq_append_getElem h, List.getD_eq_getElem?_getD, List.getElem?_eq_getElem h]; rfl

theorem ret_int {k : IntKind} {a b : Int} (h : a = b) : Ending.returned (.int k a) = .returned (.int k b) := by rw [h]

theorem bcell {B : Nat} {W w1 : World} (hb : Below B W w1) : (∀ b o, b < B → w1.cell? ⟨b, o, none⟩ = W.cell? ⟨b, o, none⟩) ∧ (∀ b o, b < B → w1.frozen? ⟨b, o, none⟩ = W.frozen? ⟨b, o, none⟩) :=
  ⟨fun b o h => hb.cell (p := ⟨b, o, none⟩) h, fun b o h => hb.frozen (p := ⟨b, o, none⟩) h⟩

theorem rowI_nil (w : World) : RowI w none 0 [] := ⟨rfl, by unfold maxLen; omega, fun h => absurd h (by omega), fun n hn => by cases hn⟩

/-- What is owned reads as the list. -/
theorem rowI_of_owns {w : World} {base e n : Nat} {v : Value} {l : List Int} (h : w.ownsRow base e 1 v n (l.map (Value.int .i64))) (hm : n ≤ maxLen) (hw : ∀ n ∈ l, (Lit.int .i64 n).wf = true) :
    ∃ a cap, v = .slice a n cap ∧ RowI w a n l := by
  have hlen : l.length = n := by have := h.1; simpa using this
  rcases h.2 with ⟨rfl, h0⟩ | ⟨g, cap, cur, rfl, hb, hg, hnc, hcm, hcs, htake⟩
  · subst h0
    exact ⟨none, 0, rfl, hlen, hm, fun h => absurd h (by omega), hw⟩
  · refine ⟨_, cap, rfl, hlen, hm, fun _ => ⟨g, 0, rfl, fun i hi => ?_⟩, hw⟩
    have := h.cellAt i (by omega)
    rw [Nat.zero_add, this, List.getElem?_map, List.getElem?_eq_getElem (by omega), List.getD_eq_getElem?_getD, List.getElem?_eq_getElem (by omega)]; rfl

/-- The first k numbers of l, then zeros, as many as l has in all. -/
def fillI (l : List Int) (k : Nat) : List Int := l.take k ++ List.replicate (l.length - k) 0
theorem fillI_set (l : List Int) (k : Nat) (h : k < l.length) : (fillI l k).set k (l.getD k 0) = fillI l (k + 1) := by
  unfold fillI
  have e : l.length - k = (l.length - (k + 1)) + 1 := by omega
  rw [e, List.replicate_succ, List.set_append_right _ _ (by simp; omega), take_snoc l k h]
  simp [Nat.min_eq_left (Nat.le_of_lt h)]
theorem fillI_all (l : List Int) : fillI l l.length = l := by simp [fillI]
theorem fillI_zero (l : List Int) : fillI l 0 = List.replicate l.length 0 := by simp [fillI]
theorem fillI_len (l : List Int) (k : Nat) (h : k ≤ l.length) : (fillI l k).length = l.length := by simp [fillI]; omega
theorem below_drewN' {B : Nat} {a w : World} (h : Below B a w) (n : Nat) : Below B a (w.drewN n) := h.trans ⟨rfl, rfl, rfl, Nat.le_refl _, fun _ _ => rfl⟩
/-- What comes in by the row's own reading. -/
theorem rowI_of_in {w : World} {a : Option Addr} {len cap : Nat} {zs : List Int}
    (h : (a = none ∧ len = 0 ∧ cap = 0 ∧ zs = []) ∨ ∃ x, a = some x ∧ len ≤ cap ∧ cap ≤ maxLen ∧ zs.length = cap ∧ (∀ i, i < zs.length → w.cell? (x.add i) = some (.int .i64 (zs.getD i 0))) ∧ ∀ n ∈ zs, (Lit.int .i64 n).wf = true) :
    RowI w a len (zs.take len) := by
  rcases h with ⟨rfl, rfl, rfl, rfl⟩ | ⟨x, rfl, hl, hm, hz, hc, hw⟩
  · exact rowI_nil w
  · refine ⟨by rw [List.length_take]; omega, by omega, fun h0 => ?_, fun n hn => hw n (List.mem_of_mem_take hn)⟩
    obtain ⟨b, off, spot⟩ := x
    have hc0 := hc 0 (by omega)
    have hspot : spot = none := by simpa [Addr.add] using World.cell?_spot hc0
    subst hspot
    refine ⟨b, off, rfl, fun i hi => ?_⟩
    have := hc i (by omega)
    rw [show (⟨b, off, none⟩ : Addr).add i = ⟨b, off + i, none⟩ by simp [Addr.add]] at this
    rw [this, List.getD_eq_getElem?_getD, List.getD_eq_getElem?_getD, List.getElem?_take, if_pos hi]
theorem rowI_of_owns_some {w : World} {base e n : Nat} {v : Value} {l : List Int} (h : w.ownsRow base e 1 v n (l.map (Value.int .i64))) (hm : n ≤ maxLen) (hw : ∀ n ∈ l, (Lit.int .i64 n).wf = true) (hv : v ≠ .slice none 0 0) :
    ∃ a cap, v = .slice (some a) n cap ∧ RowI w (some a) n l := by
  obtain ⟨a, cap, he, hr⟩ := rowI_of_owns h hm hw
  cases a with
  | some a => exact ⟨a, cap, he, hr⟩
  | none =>
    rcases h.2 with ⟨h1, _⟩ | ⟨g, cap', cur, h1, _⟩
    · exact absurd h1 hv
    · rw [h1] at he; simp at he
/-- The law's end: true, and nothing that was there has turned. -/
def LawTrue (w : World) (e : Ending) (w' : World) : Prop := e = .returned (.bool true) ∧ Below w.heap.size w w'
end Go.Proofs.Ytpaeioabmmkheaa

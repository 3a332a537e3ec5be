/- Texts of ours that stand together: EqInts, IntsWalks, ConvE, ConvI, SameInts, InB, InI, InE -/
import Derived.Test.YtoiblfjafjoaeaaGreatCore
import Derived.Deep.QuietTactic
import Derived.BigQuiet
import Derived.StillTailTactics
import Derived.ProofKit
import Derived.OpenShut
import Derived.Deep.SlicePairs
/- The contract of the laws' own eqIntS. -/
namespace Go.Proofs.YtoiblfjafjoaeaaGreat
open Go.RowKit
end Go.Proofs.YtoiblfjafjoaeaaGreat
/- The contracts of the laws' own toIntS (a copy) . -/
namespace Go.Proofs.YtoiblfjafjoaeaaGreat
open Go.RowKit
theorem infoInt : (Tryz.prog.info? 3).map (fun i => (i.zero, i.size, i.bytes)) = some (some (.int .i64 0), 1, 8) := by kernel_rfl
/-- A new list of ints that reads as l. -/
def NewI (w : World) (l : List Int) (e : Ending) (w' : World) : Prop :=
  ∃ a cap, e = .returned (.slice a l.length cap) ∧ RowI w' a l.length l ∧ Below w.heap.size w w'
end Go.Proofs.YtoiblfjafjoaeaaGreat
/- The contracts of the laws' own helpers over entries: toEntryS (a copy), eqEntryS, sameStore, szEntryS, markEntryS, heldEntryS. -/
namespace Go.Proofs.YtoiblfjafjoaeaaGreat
open Go.RowKit
theorem infoEntC : (Tryz.prog.info? 67).map (fun i => (i.zero, i.size, i.bytes)) = some (some (.agg #[.int .i64 0, .int .i64 0]), 2, 16) := by kernel_rfl
/-- A struct of two ints, in new memory. -/
def GotEnt (x y : Int) (w : World) (e : Ending) (w' : World) : Prop := e = .returned (.agg #[.int .i64 x, .int .i64 y]) ∧ Below w.heap.size w w'
/-- The first k pairs of l, then pairs of zeros. -/
def fillE (l : List Ent) (k : Nat) : List Ent := l.take k ++ List.replicate (l.length - k) (0, 0)
theorem fillE_len (l : List Ent) (k : Nat) (h : k ≤ l.length) : (fillE l k).length = l.length := by simp [fillE]; omega
theorem fillE_all (l : List Ent) : fillE l l.length = l := by simp [fillE]
theorem flatE_set (l : List Ent) (k : Nat) (x y : Int) : (flatE (l.set k (x, y))) = ((flatE l).set (k * 2) (.int .i64 x)).set (k * 2 + 1) (.int .i64 y) := by
  induction l generalizing k with
  | nil => simp [flatE]
  | cons e r ih =>
    cases k with
    | zero => simp [flatE]
    | succ k =>
      rw [show (k + 1) * 2 = k * 2 + 1 + 1 by omega]
      simp only [List.set_cons_succ, flatE, ih]
theorem fillE_set (l : List Ent) (k : Nat) (h : k < l.length) : (fillE l k).set k (l.getD k (0, 0)) = fillE l (k + 1) := by
  unfold fillE
  have e : l.length - k = (l.length - (k + 1)) + 1 := by omega
  rw [e, List.replicate_succ, List.set_append_right _ _ (by simp; omega), takeE_snoc l k h]
  simp [Nat.min_eq_left (Nat.le_of_lt h)]
theorem flatE_zeros (n : Nat) : flatE (List.replicate n (0, 0)) = List.replicate (n * 2) (.int .i64 0) := by
  induction n with
  | zero => rfl
  | succ n ih => rw [List.replicate_succ, show (n + 1) * 2 = n * 2 + 1 + 1 by omega, List.replicate_succ, List.replicate_succ]; simp [flatE, ih]
theorem made_zeros (n : Nat) : (madeCells (Value.agg #[.int .i64 0, .int .i64 0]).cells (n * 2)).toList = List.replicate (n * 2) (.int .i64 0) := by
  unfold madeCells
  apply List.ext_getElem
  · simp [Value.cells]
  · intro i h1 h2
    simp [Value.cells] at h1 ⊢
    rcases Nat.mod_two_eq_zero_or_one i with h | h <;> simp [h]
/-- One owned struct stored. -/
theorem Own.store2 {w : World} {B : Nat} {e : TypeId} {g n cap : Nat} {l : List Ent} (h : Own w B e 2 (.slice (some ⟨g, 0, none⟩) n cap) n (flatE l)) (k : Nat) (x y : Int) :
    Own ((w.setCell ⟨g, k * 2, none⟩ (.int .i64 x)).setCell ⟨g, k * 2 + 1, none⟩ (.int .i64 y)) B e 2 (.slice (some ⟨g, 0, none⟩) n cap) n (flatE (l.set k (x, y))) := by
  rw [flatE_set]
  exact ⟨((h.1.stored (k * 2) (.int .i64 x)).1.stored (k * 2 + 1) (.int .i64 y)).1, h.2⟩
set_option maxHeartbeats 1000000 in
theorem sameStore_same (a a' : Option Addr) (n cap cap' : Nat) (l : List Ent) (w : World) (h : RowE w a n l) (h' : RowE w a' n l) :
    Calls Tryz.prog 39 #[.slice a n cap, .slice a' n cap'] w (BoolQ true w) := by
  obtain ⟨hl, hm, hc, -⟩ := h
  obtain ⟨-, -, hc', -⟩ := h'
  unfold maxLen at hm
  clear hl
  by_cases h0 : 0 < n
  · obtain ⟨b, off, rfl, hcc⟩ := hc h0; clear hc; have hc := hcc; clear hcc
    obtain ⟨b', off', rfl, hcc⟩ := hc' h0; clear hc'; have hc' := hcc; clear hcc
    go_enter Tryz.func39, Tryz.ntmps39
    go_wp2
    go_loopw [5] (fun i wr => ∃ k : Nat, k ≤ n ∧ i = .int .i64 k ∧ Drawn w wr) (fun i _ => n - (intOf i).toNat)
    case atStart => exact ⟨0, Nat.zero_le _, rfl, Drawn.refl _⟩
    case round =>
      obtain ⟨k, hk, rfl, hd⟩ := hrel
      by_cases hlt : k < n
      · have hc1 := (hd.cell _).trans (hc k hlt).1
        have hc2 := (hd.cell _).trans (hc k hlt).2
        have hd1 := (hd.cell _).trans (hc' k hlt).1
        have hd2 := (hd.cell _).trans (hc' k hlt).2
        clear hc hc'
        obtain ⟨x, hx⟩ : ∃ x, x = (l.getD k (0, 0)).1 := ⟨_, rfl⟩
        obtain ⟨y, hy⟩ : ∃ y, y = (l.getD k (0, 0)).2 := ⟨_, rfl⟩
        rw [← hx] at hc1 hd1
        rw [← hy] at hc2 hd2
        clear hx hy
        go_wp2
        go_quiet (fail)
        go_wp2
        go_roundw
        case rel => exact ⟨k + 1, by omega, by go_num, hd.drewN _⟩
        case measure => simp [intOf]; omega
      · clear hc hc'
        go_wp2
        go_ret
        exact ⟨rfl, hd⟩
  · obtain rfl : n = 0 := by omega
    clear hc hc'
    go_enter Tryz.func39, Tryz.ntmps39
    go_wp2
    go_loop [5] (fun i => i = .int .i64 0) (fun _ => 0)
    case atStart => rfl
    case round =>
      subst hrel
      go_wp2
      go_ret
      exact ⟨rfl, Drawn.refl _⟩
/-- The marks from k on. -/
def marksE (k : Int) (n : Nat) : List Ent := (List.range n).map fun i : Nat => (k + 2 * i, k + 2 * i + 1)
theorem marksE_len (k : Int) (n : Nat) : (marksE k n).length = n := by simp [marksE]
theorem marksE_get (k : Int) (n i : Nat) (h : i < n) : (marksE k n).getD i (0, 0) = (k + 2 * i, k + 2 * i + 1) := by
  unfold marksE
  rw [List.getD_eq_getElem?_getD, List.getElem?_map, List.getElem?_range h]; rfl
/-- Marked up to i, then as before. -/
def markTo (k : Int) (l : List Ent) (i : Nat) : List Ent := marksE k i ++ l.drop i
theorem markTo_set (k : Int) (l : List Ent) (i : Nat) (h : i < l.length) : (markTo k l i).set i (k + 2 * i, k + 2 * i + 1) = markTo k l (i + 1) := by
  unfold markTo marksE
  rw [List.set_append_right _ _ (by simp), List.range_succ, List.map_append, List.append_assoc]
  congr 1
  rw [show i - (List.map (fun i : Nat => (k + 2 * (i : Int), k + 2 * (i : Int) + 1)) (List.range i)).length = 0 by simp, List.drop_eq_getElem_cons h, List.set_cons_zero]
  rfl
theorem markTo_len (k : Int) (l : List Ent) (i : Nat) (h : i ≤ l.length) : (markTo k l i).length = l.length := by simp [markTo, marksE]; omega
theorem markTo_all (k : Int) (l : List Ent) : markTo k l l.length = marksE k l.length := by simp [markTo]
theorem markTo_zero (k : Int) (l : List Ent) : markTo k l 0 = l := by simp [markTo, marksE]
/-- Marks are laid in a row that the call owns. -/
def MarkedE (w : World) (e0 : TypeId) (B g n cap : Nat) (k : Int) (e : Ending) (w' : World) : Prop :=
  e = .returned (.int .i64 (k + 2 * n)) ∧ Own w' B e0 2 (.slice (some ⟨g, 0, none⟩) n cap) n (flatE (marksE k n)) ∧ w.grownBy w' (some g)
theorem grownBy_set (w : World) (g o : Nat) (v : Value) : w.grownBy (w.setCell ⟨g, o, none⟩ v) (some g) :=
  ⟨rfl, rfl, rfl, by simp [World.setCell], fun k _ hk => Below.heap_setCell _ _ _ _ (fun e => hk (by simp [e]))⟩
theorem grownBy_trans {a b c : World} {row : Option Nat} (h : a.grownBy b row) (k : b.grownBy c row) : a.grownBy c row :=
  ⟨k.os.trans h.os, k.tape.trans h.tape, k.output.trans h.output, Nat.le_trans h.size k.size, fun i hi hr => (k.block i (Nat.lt_of_lt_of_le hi h.size) hr).trans (h.block i hi hr)⟩
theorem wfE_marks (k : Int) (n : Nat) (h0 : 0 ≤ k) (h1 : k ≤ 100000000) (hn : n ≤ 4000000) : WfE (marksE k n) := by
  intro e he
  obtain ⟨i, hi, rfl⟩ := List.mem_map.1 he
  have := List.mem_range.1 hi
  exact ⟨WalkArith.wf_i64 (by omega), WalkArith.wf_i64 (by omega)⟩
theorem rowE_marked {w : World} {B : Nat} {e : TypeId} {a : Option Addr} {n cap : Nat} (h : w.ownsRow B e 2 (.slice a n cap) n (flatE (marksE 1 n))) (hn : n ≤ 4000000) : RowE w a n (marksE 1 n) :=
  rowE_owned h (marksE_len _ _) (by rw [marksE_len]; exact hn) (wfE_marks 1 n (by omega) (by omega) hn)
end Go.Proofs.YtoiblfjafjoaeaaGreat
/- The contracts of the laws' own helpers over ints: markIntS, heldIntS, sameInts; a list of ints that the call owns. -/
namespace Go.Proofs.YtoiblfjafjoaeaaGreat
open Go.RowKit
theorem rowI_of_own {w : World} {B : Nat} {e : TypeId} {v : Value} {l : List Int} (h : Own w B e 1 v l.length (l.map (Value.int .i64))) (hm : l.length ≤ 4000000) (hw : ∀ x ∈ l, (Lit.int .i64 x).wf = true) :
    ∃ g cap, v = .slice (some ⟨g, 0, none⟩) l.length cap ∧ B ≤ g ∧ g < w.heap.size ∧ RowI w (some ⟨g, 0, none⟩) l.length l := by
  obtain ⟨g, cap, rfl, hB, hlt⟩ := h.slice
  obtain ⟨a, c, he, hr⟩ := rowI_of_owns h.1 (by unfold maxLen; omega) hw
  simp only [Value.slice.injEq] at he
  obtain ⟨rfl, -, -⟩ := he
  exact ⟨g, cap, rfl, hB, hlt, hr⟩
theorem rowI_owned {w : World} {B : Nat} {e : TypeId} {a : Option Addr} {n cap : Nat} {l : List Int} (h : w.ownsRow B e 1 (.slice a n cap) n (l.map (Value.int .i64))) (hm : n ≤ 4000000) (hw : ∀ x ∈ l, (Lit.int .i64 x).wf = true) : RowI w a n l := by
  obtain ⟨a', c', he, hr⟩ := rowI_of_owns h (by unfold maxLen; omega) hw
  simp only [Value.slice.injEq] at he
  obtain ⟨rfl, -, -⟩ := he
  exact hr
theorem RowI.grown {w w' : World} {b n : Nat} {row : Option Nat} {l : List Int} (h : RowI w (some ⟨b, 0, none⟩) n l) (hg : w.grownBy w' row) (hne : some b ≠ row) : RowI w' (some ⟨b, 0, none⟩) n l := by
  obtain ⟨h1, h2, h3, h4⟩ := h
  refine ⟨h1, h2, fun hl => ?_, h4⟩
  obtain ⟨b', off, he, hc⟩ := h3 hl
  obtain ⟨rfl, rfl⟩ : b = b' ∧ 0 = off := by simpa using he
  exact ⟨b, 0, rfl, fun i hi => World.grownBy.cell hg (hc i hi) hne⟩
def marksI (k : Int) (n : Nat) : List Int := (List.range n).map fun i : Nat => k + i
theorem marksI_len (k : Int) (n : Nat) : (marksI k n).length = n := by simp [marksI]
theorem marksI_get (k : Int) (n i : Nat) (h : i < n) : (marksI k n).getD i 0 = k + i := by
  unfold marksI
  rw [List.getD_eq_getElem?_getD, List.getElem?_map, List.getElem?_range h]; rfl
theorem wf_marksI (k : Int) (n : Nat) (h0 : 0 ≤ k) (h1 : k ≤ 100000000) (hn : n ≤ 4000000) : ∀ x ∈ marksI k n, (Lit.int .i64 x).wf = true := by
  intro e he
  obtain ⟨i, hi, rfl⟩ := List.mem_map.1 he
  have := List.mem_range.1 hi
  exact WalkArith.wf_i64 (by omega)
def markToI (k : Int) (l : List Int) (i : Nat) : List Int := marksI k i ++ l.drop i
theorem markToI_set (k : Int) (l : List Int) (i : Nat) (h : i < l.length) : (markToI k l i).set i (k + i) = markToI k l (i + 1) := by
  unfold markToI marksI
  rw [List.set_append_right _ _ (by simp), List.range_succ, List.map_append, List.append_assoc]
  congr 1
  rw [show i - (List.map (fun i : Nat => k + (i : Int)) (List.range i)).length = 0 by simp, List.drop_eq_getElem_cons h, List.set_cons_zero]
  rfl
theorem markToI_len (k : Int) (l : List Int) (i : Nat) (h : i ≤ l.length) : (markToI k l i).length = l.length := by simp [markToI, marksI]; omega
theorem markToI_all (k : Int) (l : List Int) : markToI k l l.length = marksI k l.length := by simp [markToI]
theorem markToI_zero (k : Int) (l : List Int) : markToI k l 0 = l := by simp [markToI, marksI]
def MarkedI (w : World) (e0 : TypeId) (B g n cap : Nat) (k : Int) (e : Ending) (w' : World) : Prop :=
  e = .returned (.int .i64 (k + n)) ∧ Own w' B e0 1 (.slice (some ⟨g, 0, none⟩) n cap) n ((marksI k n).map (Value.int .i64)) ∧ w.grownBy w' (some g)
theorem rowI_marked {w : World} {B : Nat} {e : TypeId} {a : Option Addr} {n cap : Nat} (h : w.ownsRow B e 1 (.slice a n cap) n ((marksI 1 n).map (Value.int .i64))) (hn : n ≤ 4000000) : RowI w a n (marksI 1 n) :=
  rowI_owned h hn (wf_marksI 1 n (by omega) (by omega) hn)
end Go.Proofs.YtoiblfjafjoaeaaGreat
/- The contract of the laws' own sameInts. -/
namespace Go.Proofs.YtoiblfjafjoaeaaGreat
open Go.RowKit
set_option maxHeartbeats 400000 in
theorem sameInts_same (a a' : Option Addr) (len cap cap' : Nat) (l : List Int) (w : World) (h : RowI w a len l) (h' : RowI w a' len l) :
    Calls Tryz.prog 55 #[.slice a len cap, .slice a' len cap'] w fun e w' => e = .returned (.bool true) ∧ Below w.heap.size w w' := by
  obtain ⟨hl, hm, hc, -⟩ := h
  obtain ⟨-, -, hc', -⟩ := h'
  unfold maxLen at hm
  clear hl
  by_cases h0 : 0 < len
  · obtain ⟨b, off, rfl, hcc⟩ := hc h0; clear hc; have hc := hcc; clear hcc
    obtain ⟨b', off', rfl, hcc⟩ := hc' h0; clear hc'; have hc' := hcc; clear hcc
    have hbB : b < w.heap.size := World.block_lt_of_cell? w ⟨b, off + 0, none⟩ (hc 0 h0)
    have hbB' : b' < w.heap.size := World.block_lt_of_cell? w ⟨b', off' + 0, none⟩ (hc' 0 h0)
    go_enter Tryz.func55, Tryz.ntmps55
    go_wp2
    go_loopw [5] (fun i wr => ∃ k : Nat, k ≤ len ∧ i = .int .i64 k ∧ Below w.heap.size w wr) (fun i _ => len - (intOf i).toNat)
    case atStart => exact ⟨0, Nat.zero_le _, rfl, Below.refl _ _⟩
    case round =>
      obtain ⟨k, hk, rfl, hb⟩ := hrel
      by_cases hlt : k < len
      · have hck : wr.cell? ⟨b, off + k, none⟩ = some (.int .i64 (l.getD k 0)) := (hb.cell (p := ⟨b, off + k, none⟩) hbB).trans (hc k hlt)
        have hck' : wr.cell? ⟨b', off' + k, none⟩ = some (.int .i64 (l.getD k 0)) := (hb.cell (p := ⟨b', off' + k, none⟩) hbB').trans (hc' k hlt)
        clear hc hc'
        obtain ⟨n, hn'⟩ : ∃ n, n = l.getD k 0 := ⟨_, rfl⟩
        rw [← hn'] at hck hck'
        clear hn'
        go_wp2
        go_quiet (fail)
        go_wp2
        go_roundw
        case rel => exact ⟨k + 1, by omega, by go_num, below_drewN' hb _⟩
        case measure => simp [intOf]; omega
      · clear hc hc'
        go_wp2
        go_ret
        exact ⟨rfl, hb⟩
  · obtain rfl : len = 0 := by omega
    clear hc hc'
    go_enter Tryz.func55, Tryz.ntmps55
    go_wp2
    go_loop [5] (fun i => i = .int .i64 0) (fun _ => 0)
    case atStart => rfl
    case round =>
      subst hrel
      go_wp2
      go_ret
      exact ⟨rfl, Below.refl _ _⟩
end Go.Proofs.YtoiblfjafjoaeaaGreat
/- What comes in: a slice of bytes, opened. -/
namespace Go.Proofs.YtoiblfjafjoaeaaGreat
open Go.RowKit Go.ChangeShapes
theorem in_rowB {H : Type} {enc : TypeId × Value → H} {w : World} {a : Option Addr} {len cap : Nat} {d : DataW H} {ps : List MemPlace}
    (h : DataW.Trod enc Tryz.prog w 0 (fun _ => true) true 22 (.slice a len cap) d ps) : ∃ z, RowB w a len z ∧ (a = none → cap = 0) ∧ len ≤ cap := by
  obtain ⟨fuel, hf⟩ := h
  rcases open_ints Tryz.underlying22 Tryz.underlying5 (by kernel_rfl) hf with ⟨hcs, -⟩ | ⟨x, l, c, zs, hcs, -, hl, hm, hz, -, hcell, hwz⟩
  · simp [Value.cells] at hcs
    obtain ⟨rfl, rfl, rfl⟩ := hcs
    exact ⟨[], rowB_of_in (cap := 0) (zs := []) (.inl ⟨rfl, rfl, rfl, rfl⟩), fun _ => rfl, Nat.le_refl _⟩
  · simp [Value.cells] at hcs
    obtain ⟨rfl, rfl, rfl⟩ := hcs
    exact ⟨_, rowB_of_in (cap := cap) (zs := zs) (.inr ⟨_, rfl, hl, hm, by simpa using hz, hcell, hwz⟩), fun h => (by cases h), hl⟩
end Go.Proofs.YtoiblfjafjoaeaaGreat
/- What comes in: a slice of ints, opened. -/
namespace Go.Proofs.YtoiblfjafjoaeaaGreat
open Go.RowKit Go.ChangeShapes
theorem in_rowI {H : Type} {enc : TypeId × Value → H} {w : World} {a : Option Addr} {len cap : Nat} {d : DataW H} {ps : List MemPlace}
    (h : DataW.Trod enc Tryz.prog w 0 (fun _ => true) true 42 (.slice a len cap) d ps) : ∃ z, RowI w a len z ∧ (a = none → cap = 0) ∧ len ≤ cap := by
  obtain ⟨fuel, hf⟩ := h
  rcases open_ints Tryz.underlying42 Tryz.underlying3 (by kernel_rfl) hf with ⟨hcs, -⟩ | ⟨x, l, c, zs, hcs, -, hl, hm, hz, -, hcell, hwz⟩
  · simp [Value.cells] at hcs
    obtain ⟨rfl, rfl, rfl⟩ := hcs
    exact ⟨[], rowI_of_in (cap := 0) (zs := []) (.inl ⟨rfl, rfl, rfl, rfl⟩), fun _ => rfl, Nat.le_refl _⟩
  · simp [Value.cells] at hcs
    obtain ⟨rfl, rfl, rfl⟩ := hcs
    exact ⟨_, rowI_of_in (cap := cap) (zs := zs) (.inr ⟨_, rfl, hl, hm, by simpa using hz, hcell, hwz⟩), fun h => (by cases h), hl⟩
end Go.Proofs.YtoiblfjafjoaeaaGreat
/- What comes in: a slice of entries of the laws' own type, opened. -/
namespace Go.Proofs.YtoiblfjafjoaeaaGreat
open Go.RowKit
end Go.Proofs.YtoiblfjafjoaeaaGreat

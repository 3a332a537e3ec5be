/- Texts of ours that stand together: SpecStore, SpecChanged -/
import Derived.Test.YtpjknhfcfhmmnaaCore
/- The contracts of the model's StoreValid, ValueAt, StoreTotal. -/
namespace Go.Proofs.Ytpjknhfcfhmmnaa
open Go.RowKit
theorem l1In_spec (n lo hi : Int) (w : World) :
    Calls Try.prog 30 #[.int .i64 n, .int .i64 lo, .int .i64 hi] w fun e w' => e = .returned (.bool (inB n lo hi)) ∧ w' = w := by
  by_cases h1 : lo ≤ n
  · by_cases h2 : n ≤ hi
    · rw [inB_yes h1 h2]
      go_enter Try.func30, Try.ntmps30
      go_wp2
      go_ret
      exact ⟨rfl, rfl⟩
    · rw [inB_no (by omega)]
      go_enter Try.func30, Try.ntmps30
      go_wp2
      go_ret
      exact ⟨rfl, rfl⟩
  · rw [inB_no (by omega)]
    go_enter Try.func30, Try.ntmps30
    go_wp2
    go_ret
    exact ⟨rfl, rfl⟩
theorem infoEnt : (Try.prog.info? 99).map (fun i => (i.zero, i.size, i.bytes)) = some (some (.agg #[.int .i64 0, .int .i64 0]), 2, 16) := by kernel_rfl
/-- A new list of pairs and a bool. -/
def NewEB (w : World) (e0 : TypeId) (l : List Ent) (b : Bool) (e : Ending) (w' : World) : Prop :=
  ∃ v, e = .returned (.tuple #[v, .bool b]) ∧ Own w' w.heap.size e0 2 v l.length (flatE l) ∧ WfE l ∧ Below w.heap.size w w'
end Go.Proofs.Ytpjknhfcfhmmnaa
/- The contract of the model's ChangedKeys. -/
namespace Go.Proofs.Ytpjknhfcfhmmnaa
open Go.RowKit
theorem infoIntC : (Try.prog.info? 3).map (fun i => (i.zero, i.size, i.bytes)) = some (some (.int .i64 0), 1, 8) := by kernel_rfl
/-- A new list of ints: l, owned from where the heap ended. -/
def NewL (w : World) (e0 : TypeId) (l : List Int) (e : Ending) (w' : World) : Prop :=
  ∃ v, e = .returned v ∧ Own w' w.heap.size e0 1 v l.length (l.map (Value.int .i64)) ∧ (∀ x ∈ l, (Lit.int .i64 x).wf = true) ∧ Below w.heap.size w w'
/-- The changed keys below k. -/
def chTo (a b : List Ent) (k : Nat) : List Int := ((List.range k).map (fun k : Nat => (k : Int))).filter (fun key => decide (atM a key ≠ atM b key))
theorem chTo_next (a b : List Ent) (k : Nat) : chTo a b (k + 1) = if atM a k ≠ atM b k then chTo a b k ++ [(k : Int)] else chTo a b k := by
  unfold chTo
  rw [List.range_succ, List.map_append, List.filter_append]
  by_cases h : atM a k = atM b k <;> simp [h]
theorem chTo_len (a b : List Ent) (k : Nat) : (chTo a b k).length ≤ k := by
  unfold chTo; exact Nat.le_trans (List.length_filter_le _ _) (by simp)
theorem chTo_mem (a b : List Ent) (k : Nat) : ∀ x ∈ chTo a b k, 0 ≤ x ∧ x < k := by
  intro x hx
  have := (List.mem_filter.1 hx).1
  obtain ⟨j, hj, rfl⟩ := List.mem_map.1 this
  have := List.mem_range.1 hj
  omega
end Go.Proofs.Ytpjknhfcfhmmnaa

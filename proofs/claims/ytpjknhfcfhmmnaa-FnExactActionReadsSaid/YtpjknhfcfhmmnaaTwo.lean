/- Texts of ours that stand together: ImplStore, ImplVals, ImplPut, ImplChanged -/
import Derived.Test.YtpjknhfcfhmmnaaSpecS
import Derived.Test.YtpjknhfcfhmmnaaCore
/- The contracts of the program's isKey, isValue, StoreValid. -/
namespace Go.Proofs.Ytpjknhfcfhmmnaa
open Go.RowKit
/-- A bool, and nothing old has turned. -/
def BoolB (b : Bool) (w : World) (e : Ending) (w' : World) : Prop := e = .returned (.bool b) ∧ Below w.heap.size w w'
/-- An int, and nothing old has turned. -/
def IntB (n : Int) (w : World) (e : Ending) (w' : World) : Prop := e = .returned (.int .i64 n) ∧ Below w.heap.size w w'
theorem isKey_impl (n : Int) (w : World) :
    Calls Try.prog 39 #[.int .i64 n] w fun e w' => e = .returned (.bool (inB n 0 31)) ∧ w = w' := by
  by_cases h1 : 0 ≤ n
  · by_cases h2 : n ≤ 31
    · rw [inB_yes h1 h2]
      go_enter Try.func39, Try.ntmps39
      go_wp2
      go_ret
      exact ⟨rfl, rfl⟩
    · rw [inB_no (by omega)]
      go_enter Try.func39, Try.ntmps39
      go_wp2
      go_ret
      exact ⟨rfl, rfl⟩
  · rw [inB_no (by omega)]
    go_enter Try.func39, Try.ntmps39
    go_wp2
    go_ret
    exact ⟨rfl, rfl⟩
theorem isValue_impl (n : Int) (w : World) :
    Calls Try.prog 40 #[.int .i64 n] w fun e w' => e = .returned (.bool (inB n 0 1000000)) ∧ w = w' := by
  by_cases h1 : 0 ≤ n
  · by_cases h2 : n ≤ 1000000
    · rw [inB_yes h1 h2]
      go_enter Try.func40, Try.ntmps40
      go_wp2
      go_ret
      exact ⟨rfl, rfl⟩
    · rw [inB_no (by omega)]
      go_enter Try.func40, Try.ntmps40
      go_wp2
      go_ret
      exact ⟨rfl, rfl⟩
  · rw [inB_no (by omega)]
    go_enter Try.func40, Try.ntmps40
    go_wp2
    go_ret
    exact ⟨rfl, rfl⟩
/-- The key before the k-th entry, -1 before the first. -/
def lastOf (l : List Ent) : Nat → Int
  | 0 => -1
  | k + 1 => (l.getD k (0, 0)).1
theorem okAt_last (l : List Ent) (k : Nat) : okAt l k = (inB (l.getD k (0, 0)).1 0 31 && inB (l.getD k (0, 0)).2 1 1000000 && decide (lastOf l k < (l.getD k (0, 0)).1)) := by
  unfold okAt
  cases k with
  | zero =>
    by_cases h : 0 ≤ (l.getD 0 (0, 0)).1
    · have e : decide (lastOf l 0 < (l.getD 0 (0, 0)).1) = true := by rw [decide_eq_true_eq]; show (-1 : Int) < _; omega
      rw [e]; rfl
    · rw [inB_no (by omega)]; simp
  | succ k => simp [lastOf]
theorem lastOf_bd {l : List Ent} {n : Nat} {w : World} {a : Option Addr} (h : RowE w a n l) (k : Nat) (hk : k ≤ n) : -9223372036854775808 ≤ lastOf l k ∧ lastOf l k ≤ 9223372036854775807 := by
  cases k with
  | zero => simp [lastOf]
  | succ k => exact (h.bd k (by omega)).1
end Go.Proofs.Ytpjknhfcfhmmnaa
/- The contracts of the program's valuesOf and entries. -/
namespace Go.Proofs.Ytpjknhfcfhmmnaa
open Go.RowKit
/-- An array and a bool, and nothing old has turned. -/
def ArrB (A : List Int) (b : Bool) (w : World) (e : Ending) (w' : World) : Prop := e = .returned (.tuple #[.agg (cellsI A), .bool b]) ∧ Below w.heap.size w w'
theorem infoArr : (Try.prog.info? 90).map (·.size) = some 32 := by kernel_rfl
/-- 32 zeros. -/
def zeros : List Int := List.replicate 32 0
theorem zeros_len : zeros.length = 32 := rfl
theorem arrOf_nil' : arrOf [] = zeros := arrOf_nil
/-- What valuesOf answers. -/
def valsM (l : List Ent) : List Int := if storeB l then arrOf l else zeros
theorem valsM_len (l : List Ent) : (valsM l).length = 32 := by unfold valsM; split; exact arrOf_len l; rfl
/-- v owns n elements (size cells each), the cells xs, from block B on; it may be the nil slice. -/
theorem own_nil (w : World) (B : Nat) (e : TypeId) (size : Nat) : w.ownsRow B e size (.slice none 0 0) 0 [] := World.ownsRow_nil w B e size
/-- A list of pairs, new or nil. -/
def NewN (w : World) (l : List Ent) (e : Ending) (w' : World) : Prop :=
  ∃ v, e = .returned v ∧ w'.ownsRow w.heap.size 99 2 v l.length (flatE l) ∧ Below w.heap.size w w'
end Go.Proofs.Ytpjknhfcfhmmnaa
/- The contracts of the program's ValueAt and PutValue. -/
namespace Go.Proofs.Ytpjknhfcfhmmnaa
open Go.RowKit
theorem below_new {w w1 w2 : World} {T : TypeId} {cs : Array Value} (hb : Below w.heap.size w w1) (hg : (w1.alloc (.cells cs T)).grownBy w2 (some w1.heap.size)) : Below w.heap.size w w2 :=
  (hb.alloc hb.size _).grown hg (by have := hb.size; simp; omega) (fun k hk => by simp at hk; have := hb.size; omega)
theorem wf_of_ok {l : List Ent} (h : OkE l) : WfE l := fun e he => by have := h e he; exact ⟨WalkArith.wf_i64 (by omega), WalkArith.wf_i64 (by omega)⟩
theorem putM_wf' {l : List Ent} (key val : Int) (hw : WfE l) : WfE (putM l key val).1 := by
  unfold putM
  split
  · rename_i hs
    split
    · rename_i hi
      simp only [Bool.and_eq_true] at hi
      have h1 := inB_true hi.1; have h2 := inB_true hi.2
      exact wf_of_ok (ok_put ((storeB_ok l).1 hs) h1.1 h1.2 h2.1 h2.2).2
    · exact hw
  · intro e he; cases he
/-- A list of pairs, new or nil, and a bool. -/
def NewNB (w : World) (l : List Ent) (b : Bool) (e : Ending) (w' : World) : Prop :=
  ∃ v, e = .returned (.tuple #[v, .bool b]) ∧ w'.ownsRow w.heap.size 99 2 v l.length (flatE l) ∧ WfE l ∧ Below w.heap.size w w'
end Go.Proofs.Ytpjknhfcfhmmnaa
/- The contracts of the program's StoreTotal and ChangedKeys. -/
namespace Go.Proofs.Ytpjknhfcfhmmnaa
open Go.RowKit
theorem valsM_get {l : List Ent} (hs : storeB l = true) (k : Nat) (hk : k < 32) : (valsM l).getD k 0 = atM l k := by
  rw [show valsM l = arrOf l by simp [valsM, hs]]; exact arrOf_get l k hk
theorem valsM_bd {l : List Ent} (hs : storeB l = true) : BdA (valsM l) := by
  rw [show valsM l = arrOf l by simp [valsM, hs]]; exact bdA_arrOf ((storeB_ok l).1 hs).2
theorem run_index_vals (A : List Int) (hl : A.length = 32) (k : Nat) (hk : k < 32) (W : World) :
    (Instr.index 90 (.agg (cellsI A)) (.int .i64 (k : Int))).run Try.prog W = .ok (.int .i64 (A.getD k 0)) W :=
  run_index_arr (P := Try.prog) W 90 32 3 _ Try.underlying90 Try.underlying3 rfl (by kernel_rfl) A hl k hk
/-- A list of ints, new or nil. -/
def NewLN (w : World) (l : List Int) (e : Ending) (w' : World) : Prop :=
  ∃ v, e = .returned v ∧ w'.ownsRow w.heap.size 3 1 v l.length (l.map (Value.int .i64)) ∧ (∀ x ∈ l, (Lit.int .i64 x).wf = true) ∧ Below w.heap.size w w'
end Go.Proofs.Ytpjknhfcfhmmnaa

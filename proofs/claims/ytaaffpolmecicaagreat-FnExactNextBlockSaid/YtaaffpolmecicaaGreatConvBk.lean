/- The contracts of the laws' own helpers over blocks: szBlock, toBlock, eqBlock, markBlock, heldBlock. -/
import Derived.Test.YtaaffpolmecicaaGreatBlkMem
import Derived.Test.YtaaffpolmecicaaGreatHeldA
namespace Go.Proofs.YtaaffpolmecicaaGreat
open Go.RowKit
set_option linter.unusedVariables false
theorem szBlock_any (p q r t u : Int) (a : Option Addr) (n c : Nat) (left : Int) (w : World) (h0 : 0 ≤ left) (h1 : left ≤ 1048576) (hn : n ≤ maxLen) :
    Calls Tryz.prog 7 #[.agg #[.int .i64 p, .int .i64 q, .int .i64 r, .slice a n c, .int .i64 t, .int .i64 u], .int .i64 left] w fun e w' => e = .returned (.int .i64 (if (n : Int) ≤ left then left - n else -1)) ∧ Below w.heap.size w w' := by
  have hb0 := (Below.refl w.heap.size w).alloc (Nat.le_refl _) (.cells #[.int .i64 p, .int .i64 q, .int .i64 r, .slice a n c, .int .i64 t, .int .i64 u] 24)
  have HB := Lib.hid hb0
  clear hb0
  go_enter Tryz.func7, Tryz.ntmps7
  go_wp2_with fail
  refine (szActionS_any a n c left _ h0 h1 hn).mono ?_; rintro e w' ⟨rfl, rfl⟩
  by_cases h : (n : Int) ≤ left
  · rw [if_pos h]
    have hlt : decide (left - (n : Int) < 0) = false := by simp; omega
    go_wp2
    go_ret
    exact ⟨rfl, HB.out⟩
  · rw [if_neg h]
    go_wp2
    go_ret
    exact ⟨rfl, HB.out⟩
theorem eqBlock_same (p q r t u : Int) (a : Option Addr) (n c : Nat) (a' : Option Addr) (c' : Nat) (L : List Acn) (w : World) (h : RowA w a n L) (h' : RowA w a' n L) :
    Calls Tryz.prog 15 #[.agg #[.int .i64 p, .int .i64 q, .int .i64 r, .slice a n c, .int .i64 t, .int .i64 u], .agg #[.int .i64 p, .int .i64 q, .int .i64 r, .slice a' n c', .int .i64 t, .int .i64 u]] w fun e w' => e = .returned (.bool true) ∧ Below w.heap.size w w' := by
  have hb0 := ((Below.refl w.heap.size w).alloc (Nat.le_refl _) (.cells #[.int .i64 p, .int .i64 q, .int .i64 r, .slice a n c, .int .i64 t, .int .i64 u] 31)).alloc (by simp) (.cells #[.int .i64 p, .int .i64 q, .int .i64 r, .slice a' n c', .int .i64 t, .int .i64 u] 31)
  have hA := (bkAt_new w 31 (.int .i64 p) (.int .i64 q) (.int .i64 r) (.slice a n c) (.int .i64 t) (.int .i64 u)).below ((Below.refl _ _).alloc (Nat.le_refl _) (.cells #[.int .i64 p, .int .i64 q, .int .i64 r, .slice a' n c', .int .i64 t, .int .i64 u] 31))
  have hA' := bkAt_new (w.alloc (.cells #[.int .i64 p, .int .i64 q, .int .i64 r, .slice a n c, .int .i64 t, .int .i64 u] 31)) 31 (.int .i64 p) (.int .i64 q) (.int .i64 r) (.slice a' n c') (.int .i64 t) (.int .i64 u)
  rw [World.size_alloc] at hA'
  have H := Lib.hid (h.below hb0)
  have H' := Lib.hid (h'.below hb0)
  have HB := Lib.hid hb0
  have HA := Lib.hid hA
  have HA' := Lib.hid hA'
  clear h h' hb0 hA hA'
  go_enter Tryz.func15, Tryz.ntmps15
  go_wp2_with fail
  refine (eqActionS_same a a' n c c' L _ H.out H'.out).mono ?_; rintro e w1 ⟨rfl, hb1⟩
  obtain ⟨-, -, -, -, c4, c5, -⟩ := HA.out.below hb1
  obtain ⟨-, -, -, -, d4, d5, -⟩ := HA'.out.below hb1
  have HB1 := Lib.hid (HB.out.trans (hb1.mono HB.out.size))
  clear hb1
  go_wp2
  go_ret
  exact ⟨rfl, HB1.out⟩
set_option maxHeartbeats 1000000 in
theorem toBlock_any (p q r t u : Int) (a : Option Addr) (n c : Nat) (L : List Acn) (w : World) (h : RowA w a n L) (hn : n ≤ 1048576) (hw : WfB ⟨p, q, r, L, t, u⟩) :
    Calls Tryz.prog 11 #[.agg #[.int .i64 p, .int .i64 q, .int .i64 r, .slice a n c, .int .i64 t, .int .i64 u]] w (NewBk w 69 ⟨p, q, r, L, t, u⟩) := by
  have hb0 := (((Below.refl w.heap.size w).alloc (Nat.le_refl _) (.cells #[.int .i64 p, .int .i64 q, .int .i64 r, .slice a n c, .int .i64 t, .int .i64 u] 24)).alloc (by simp) (.cells #[.int .i64 0, .int .i64 0, .int .i64 0, .slice none 0 0, .int .i64 0, .int .i64 0] 31)).alloc (by simp; omega) (.cells #[.int .i64 p, .int .i64 q, .int .i64 r, .slice none 0 0, .int .i64 0, .int .i64 0] 31)
  have hA := ((bkAt_new w 24 (.int .i64 p) (.int .i64 q) (.int .i64 r) (.slice a n c) (.int .i64 t) (.int .i64 u)).below ((Below.refl _ _).alloc (Nat.le_refl _) (.cells #[.int .i64 0, .int .i64 0, .int .i64 0, .slice none 0 0, .int .i64 0, .int .i64 0] 31))).below ((Below.refl _ _).alloc (Nat.le_refl _) (.cells #[.int .i64 p, .int .i64 q, .int .i64 r, .slice none 0 0, .int .i64 0, .int .i64 0] 31))
  have hZ := (bkAt_new (w.alloc (.cells #[.int .i64 p, .int .i64 q, .int .i64 r, .slice a n c, .int .i64 t, .int .i64 u] 24)) 31 (.int .i64 0) (.int .i64 0) (.int .i64 0) (.slice none 0 0) (.int .i64 0) (.int .i64 0)).below ((Below.refl _ _).alloc (Nat.le_refl _) (.cells #[.int .i64 p, .int .i64 q, .int .i64 r, .slice none 0 0, .int .i64 0, .int .i64 0] 31))
  have hE := bkAt_new ((w.alloc (.cells #[.int .i64 p, .int .i64 q, .int .i64 r, .slice a n c, .int .i64 t, .int .i64 u] 24)).alloc (.cells #[.int .i64 0, .int .i64 0, .int .i64 0, .slice none 0 0, .int .i64 0, .int .i64 0] 31)) 31 (.int .i64 p) (.int .i64 q) (.int .i64 r) (.slice none 0 0) (.int .i64 0) (.int .i64 0)
  rw [World.size_alloc] at hZ
  rw [World.size_alloc, World.size_alloc] at hE
  obtain ⟨W1, hW1⟩ : ∃ W1, W1 = ((w.alloc (.cells #[.int .i64 p, .int .i64 q, .int .i64 r, .slice a n c, .int .i64 t, .int .i64 u] 24)).alloc (.cells #[.int .i64 0, .int .i64 0, .int .i64 0, .slice none 0 0, .int .i64 0, .int .i64 0] 31)).alloc (.cells #[.int .i64 p, .int .i64 q, .int .i64 r, .slice none 0 0, .int .i64 0, .int .i64 0] 31) := ⟨_, rfl⟩
  have HW1 := Lib.hid hW1
  rw [← hW1] at hb0 hA hZ hE
  clear hW1
  have HA := Lib.hid (fun (W : World) (hb : Below W1.heap.size W1 W) => (⟨hA.below hb, hZ.below hb, hE.below hb, hb0.trans (hb.mono hb0.size)⟩ : BkAt W w.heap.size (.int .i64 p) (.int .i64 q) (.int .i64 r) (.slice a n c) (.int .i64 t) (.int .i64 u) ∧ BkAt W (w.heap.size + 1) (.int .i64 0) (.int .i64 0) (.int .i64 0) (.slice none 0 0) (.int .i64 0) (.int .i64 0) ∧ BkAt W (w.heap.size + 1 + 1) (.int .i64 p) (.int .i64 q) (.int .i64 r) (.slice none 0 0) (.int .i64 0) (.int .i64 0) ∧ Below w.heap.size w W))
  have HR := Lib.hid (h.below hb0)
  have HN : Hid (w.heap.size + 1 + 1 < W1.heap.size) := Lib.hid hE.lt
  have HWB := Lib.hid hw
  clear h hb0 hA hZ hE hw
  go_enter Tryz.func11, Tryz.ntmps11
  go_wp2_with fail
  rw [← HW1.out]
  clear HW1
  refine (toActionS_any a n c L _ HR.out hn).mono ?_; rintro e w2 ⟨v2, rfl, ho, hwf, hb2⟩
  have HWF := Lib.hid hwf
  obtain ⟨hA2, hZ2, hE2, hB2⟩ := HA.out w2 hb2
  obtain ⟨g, k, rfl, hg, -⟩ := ho.slice
  have hgn := HN.out
  have n1 : Value.ownBlock (.slice (some ⟨g, 0, none⟩) L.length k) ≠ some (w.heap.size + 1 + 1) := by simp [Value.ownBlock]; omega
  have n2 : Value.ownBlock (.slice (some ⟨g, 0, none⟩) L.length k) ≠ some (w.heap.size + 1) := by simp [Value.ownBlock]; omega
  have hE3 := hE2.set345 (.slice (some ⟨g, 0, none⟩) L.length k) (.int .i64 t) (.int .i64 u)
  have hZ3 := ((hZ2.grown (set_grown w2 (w.heap.size + 1 + 1) 3 (.slice (some ⟨g, 0, none⟩) L.length k)) (by simp)).grown (set_grown _ (w.heap.size + 1 + 1) 4 (.int .i64 t)) (by simp)).grown (set_grown _ (w.heap.size + 1 + 1) 5 (.int .i64 u)) (by simp)
  have hb3 := below_set3 hB2 (Z := w.heap.size + 1 + 1) (by omega) 3 4 5 (.slice (some ⟨g, 0, none⟩) L.length k) (.int .i64 t) (.int .i64 u)
  have ho3 := owns_set (owns_set (owns_set ho.1 n1 3 (.slice (some ⟨g, 0, none⟩) L.length k)) n1 4 (.int .i64 t)) n1 5 (.int .i64 u)
  have HF := Lib.hid (hZ3.set6 (.int .i64 p) (.int .i64 q) (.int .i64 r) (.slice (some ⟨g, 0, none⟩) L.length k) (.int .i64 t) (.int .i64 u))
  have HBF := Lib.hid (below_set6 hb3 (Z := w.heap.size + 1) (by omega) (.int .i64 p) (.int .i64 q) (.int .i64 r) (.slice (some ⟨g, 0, none⟩) L.length k) (.int .i64 t) (.int .i64 u))
  have HO := Lib.hid (owns_mono (owns_set6 ho3 n2 (.int .i64 p) (.int .i64 q) (.int .i64 r) (.slice (some ⟨g, 0, none⟩) L.length k) (.int .i64 t) (.int .i64 u)) (show w.heap.size ≤ W1.heap.size by omega))
  obtain ⟨a0, a1, a2, a3, a4, a5, -⟩ := hA2
  obtain ⟨zc0, zc1, zc2, zc3, zc4, zc5, z0, z1, z2, z3, z4, z5⟩ := hZ2
  obtain ⟨e0, e1, e2, e3, e4, e5, ef0, ef1, ef2, ef3, ef4, ef5⟩ := hE2
  clear hE3 hZ3 hb3 ho3 ho hB2 hb2 hwf
  go_wp2_with fail
  refine bodyPost_ret (results_blk Tryz.results11 _ (by rfl) HF.out) rfl ?_
  exact ⟨_, rfl, HO.out, HWF.out, HWB.out, HBF.out⟩
/-- Marks of actions are laid in a row, nil or owned. -/
def MarkedAz (w : World) (e0 : TypeId) (B : Nat) (v : Value) (n : Nat) (k : Int) (e : Ending) (w' : World) : Prop :=
  e = .returned (.int .i64 (k + 4 * n)) ∧ w'.ownsRow B e0 4 v n (flatA (marksA k n)) ∧ w.grownBy w' v.ownBlock
theorem markActionS_own (B : Nat) (v : Value) (n : Nat) (l : List Acn) (k : Int) (w : World) (h : w.ownsRow B 69 4 v n (flatA l)) (hl : l.length = n) (hn : n ≤ 4000000) (hk0 : 0 ≤ k) (hk1 : k ≤ 100000000) :
    Calls Tryz.prog 20 #[v, .int .i64 k] w (MarkedAz w 69 B v n k) := by
  by_cases hv : v = .slice none 0 0
  · subst hv
    have h0 : n = 0 := by
      rcases h.2 with ⟨_, h1⟩ | ⟨g, cap, cur, h1, _⟩
      · exact h1
      · simp at h1
    subst h0
    have hN : w.ownsRow B 69 4 (.slice none 0 0) 0 (flatA (marksA k 0)) := World.ownsRow_nil _ _ _ _
    clear h
    go_enter Tryz.func20, Tryz.ntmps20
    go_wp2
    go_loopw [1, 5] (fun q i wr => q = .int .i64 k ∧ i = .int .i64 0 ∧ wr = w) (fun _ _ _ => 0)
    case atStart => exact ⟨rfl, rfl, rfl⟩
    case round =>
      obtain ⟨rfl, rfl, rfl⟩ := hrel
      go_wp2
      go_ret
      exact ⟨ret_int (by simp), hN, World.grownBy.refl _ _⟩
  · obtain ⟨g, cap, rfl, -, -⟩ := (show Own w B 69 4 v n (flatA l) from ⟨h, hv⟩).slice
    refine (markActionS_any B g n cap l k w ⟨h, hv⟩ hl hn hk0 hk1).mono ?_
    rintro e w' ⟨rfl, ho, hg⟩
    exact ⟨rfl, ho.1, hg⟩
/-- What markBlock leaves. -/
theorem markBlock_own (B : Nat) (p q r t u : Int) (v : Value) (n : Nat) (l : List Acn) (k : Int) (w : World) (h : w.ownsRow B 69 4 v n (flatA l)) (hl : l.length = n) (hn : n ≤ 4000000) (hk0 : 0 ≤ k) (hk1 : k ≤ 100000000) :
    Calls Tryz.prog 18 #[.agg #[.int .i64 p, .int .i64 q, .int .i64 r, v, .int .i64 t, .int .i64 u], .int .i64 k] w (MarkedAz w 69 B v n k) := by
  obtain ⟨a, n', c', rfl⟩ : ∃ a n' c', v = .slice a n' c' := by
    rcases h.2 with ⟨h1, _⟩ | ⟨g, cap, cur, h1, _⟩
    · exact ⟨_, _, _, h1⟩
    · exact ⟨_, _, _, h1⟩
  have H := Lib.hid (owns_below h ((Below.refl w.heap.size w).alloc (Nat.le_refl _) (.cells #[.int .i64 p, .int .i64 q, .int .i64 r, .slice a n' c', .int .i64 t, .int .i64 u] 31)))
  have HG := Lib.hid (World.grownBy_alloc w (.cells #[.int .i64 p, .int .i64 q, .int .i64 r, .slice a n' c', .int .i64 t, .int .i64 u] 31) (Value.ownBlock (.slice a n' c')))
  clear h
  go_enter Tryz.func18, Tryz.ntmps18
  go_wp2_with fail
  refine (markActionS_own B _ n l k _ H.out hl hn hk0 hk1).mono ?_; rintro e w1 ⟨rfl, ho, hg⟩
  have HO := Lib.hid ho
  have HG1 := Lib.hid (grownBy_transX HG.out hg)
  clear ho hg
  go_wp2
  go_ret
  exact ⟨rfl, HO.out, HG1.out⟩
theorem heldBlock_any (p q r t u : Int) (a : Option Addr) (n c : Nat) (k : Int) (w : World) (h : RowA w a n (marksA k n)) (hn : n ≤ 4000000) (hk0 : 0 ≤ k) (hk1 : k ≤ 100000000) :
    Calls Tryz.prog 21 #[.agg #[.int .i64 p, .int .i64 q, .int .i64 r, .slice a n c, .int .i64 t, .int .i64 u], .int .i64 k] w fun e w' => e = .returned (.int .i64 (k + 4 * n)) ∧ Below w.heap.size w w' := by
  have hb0 := (Below.refl w.heap.size w).alloc (Nat.le_refl _) (.cells #[.int .i64 p, .int .i64 q, .int .i64 r, .slice a n c, .int .i64 t, .int .i64 u] 31)
  have H := Lib.hid (h.below hb0)
  have HB := Lib.hid hb0
  have hd : decide (k + 4 * (n : Int) < 0) = false := by simp; omega
  clear h hb0
  go_enter Tryz.func21, Tryz.ntmps21
  go_wp2_with fail
  refine (heldActionS_any a n c k _ H.out hn hk0 hk1).mono ?_; rintro e w1 ⟨rfl, rfl⟩
  go_wp2
  go_ret
  exact ⟨rfl, HB.out⟩
end Go.Proofs.YtaaffpolmecicaaGreat

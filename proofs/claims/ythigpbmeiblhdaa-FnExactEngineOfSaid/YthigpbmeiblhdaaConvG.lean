/- Texts of ours that stand together: ConvEng, ConvEng2 -/
import Derived.Test.YthigpbmeiblhdaaEngM
import Derived.Test.YthigpbmeiblhdaaConvX
import Derived.Test.YthigpbmeiblhdaaConv
import Derived.Test.YthigpbmeiblhdaaConvA
import Derived.Test.YthigpbmeiblhdaaConvV
import Derived.Test.YthigpbmeiblhdaaConvF
import Derived.Deep.Cut
import Derived.StillTailTactics
/- The contracts of the laws' own helpers over slots and engines: weights. -/
namespace Go.Proofs.Ythigpbmeiblhdaa
open Go.RowKit
set_option linter.unusedVariables false
/-- How much a slot weighs. -/
def wtS (s : Slt) : Nat := s.from_.length + s.res.rds.length + s.res.wrs.length
/-- What is left when n is weighed, or -1. -/
def szN (n : Nat) (left : Int) : Int := if (n : Int) ≤ left then left - n else -1
theorem szN_yes {n : Nat} {left : Int} (h : (n : Int) ≤ left) : szN n left = left - n := by unfold szN; rw [if_pos h]
theorem szN_no {n : Nat} {left : Int} (h : left < (n : Int)) : szN n left = -1 := by unfold szN; rw [if_neg (by omega)]
/-- How much all slots weigh. -/
def sumSl : List Slt → Nat
  | [] => 0
  | s :: r => wtS s + sumSl r
theorem sumSl_append (l m : List Slt) : sumSl (l ++ m) = sumSl l + sumSl m := by
  induction l with
  | nil => simp [sumSl]
  | cons a r ih => simp only [List.cons_append, sumSl, ih]; omega
theorem sumSl_next (L : List Slt) (k : Nat) (h : k < L.length) : sumSl (L.take (k + 1)) = sumSl (L.take k) + wtS (L.getD k noSlt) := by
  rw [List.take_succ_eq_append_getElem h, sumSl_append, List.getD_eq_getElem?_getD, List.getElem?_eq_getElem h]; simp [sumSl]
theorem sumSl_take (L : List Slt) (k : Nat) : sumSl (L.take k) ≤ sumSl L := by
  have h := sumSl_append (L.take k) (L.drop k)
  rw [List.take_append_drop] at h; omega
def wtSl (L : List Slt) : Nat := L.length + sumSl L
/-- How much an engine weighs. -/
def wtEng (e : Eng) : Nat := e.base.length + e.list.length + e.vers.length + wtSl e.slots
end Go.Proofs.Ythigpbmeiblhdaa
/- The contracts of the laws' own helpers over slots and engines: comparisons. -/
namespace Go.Proofs.Ythigpbmeiblhdaa
open Go.RowKit
set_option linter.unusedVariables false
/-- A slot as a value, its slices (a, ..). -/
def slV (s : Slt) (x y z : Value) : Value := .agg #[.int .i64 s.stage, .int .i64 s.tries, x, .bool s.res.done, y, z]
set_option maxHeartbeats 2000000 in
theorem eqSlot_same (s : Slt) (n n1 n2 : Nat) (a a1 a2 a' a1' a2' : Option Addr) (c c1 c2 c' c1' c2' : Nat) (w : World) (h : RowI w a n s.from_) (h' : RowI w a' n s.from_) (hf : RowF w a1 n1 a2 n2 s.res) (hf' : RowF w a1' n1 a2' n2 s.res) :
    Calls Try.prog 41 #[slV s (.slice a n c) (.slice a1 n1 c1) (.slice a2 n2 c2), slV s (.slice a' n c') (.slice a1' n1 c1') (.slice a2' n2 c2')] w fun e w' => e = .returned (.bool true) ∧ Below w.heap.size w w' := by
  obtain ⟨st, tr, fr, rs⟩ := s
  obtain ⟨dn, X, Y⟩ := rs
  simp only [slV] at h h' hf hf' ⊢
  have hb0 := ((Below.refl w.heap.size w).alloc (Nat.le_refl _) (.cells #[.int .i64 st, .int .i64 tr, .slice a n c, .bool dn, .slice a1 n1 c1, .slice a2 n2 c2] 71)).alloc (by simp) (.cells #[.int .i64 st, .int .i64 tr, .slice a' n c', .bool dn, .slice a1' n1 c1', .slice a2' n2 c2'] 71)
  have H := Lib.hid (h.below hb0); have H' := Lib.hid (h'.below hb0)
  have HF := Lib.hid (hf.below hb0); have HF' := Lib.hid (hf'.below hb0)
  have HB := Lib.hid hb0
  have e1 : (st != st) = false := by simp
  have e2 : (tr != tr) = false := by simp
  clear h h' hf hf' hb0
  go_enter Try.func41, Try.ntmps41
  go_wp2_with fail
  refine (eqIntS_same a a' n c c' fr _ H.out H'.out).mono ?_; rintro e w1 ⟨rfl, hb1⟩
  have H1 := Lib.hid (HF.out.below hb1); have H1' := Lib.hid (HF'.out.below hb1)
  have k3 : w1.cell? ⟨w.heap.size, 3, none⟩ = some (.bool dn) := (hb1.cell (p := ⟨w.heap.size, 3, none⟩) (by simp; omega)).trans (by simp [go_sem])
  have k4 : w1.cell? ⟨w.heap.size, 4, none⟩ = some (.slice a1 n1 c1) := (hb1.cell (p := ⟨w.heap.size, 4, none⟩) (by simp; omega)).trans (by simp [go_sem])
  have k5 : w1.cell? ⟨w.heap.size, 5, none⟩ = some (.slice a2 n2 c2) := (hb1.cell (p := ⟨w.heap.size, 5, none⟩) (by simp; omega)).trans (by simp [go_sem])
  have j3 : w1.cell? ⟨w.heap.size + 1, 3, none⟩ = some (.bool dn) := (hb1.cell (p := ⟨w.heap.size + 1, 3, none⟩) (by simp)).trans (by simp [go_sem])
  have j4 : w1.cell? ⟨w.heap.size + 1, 4, none⟩ = some (.slice a1' n1 c1') := (hb1.cell (p := ⟨w.heap.size + 1, 4, none⟩) (by simp)).trans (by simp [go_sem])
  have j5 : w1.cell? ⟨w.heap.size + 1, 5, none⟩ = some (.slice a2' n2 c2') := (hb1.cell (p := ⟨w.heap.size + 1, 5, none⟩) (by simp)).trans (by simp [go_sem])
  have HB1 := Lib.hid (HB.out.trans (hb1.mono HB.out.size))
  clear hb1
  go_wp2_with fail
  refine (eqEffect_same a1 n1 c1 a2 n2 c2 a1' c1' a2' c2' ⟨dn, X, Y⟩ _ H1.out H1'.out).mono ?_; rintro e w2 ⟨rfl, hb2⟩
  go_wp2
  go_ret
  exact ⟨rfl, HB1.out.trans (hb2.mono HB1.out.size)⟩
set_option maxRecDepth 100000 in
set_option maxHeartbeats 2000000 in
theorem eqSlotS_same (a a' : Option Addr) (n cap cap' : Nat) (L : List Slt) (w : World) (h : RowSl w a n L) (h' : RowSl w a' n L) :
    Calls Try.prog 26 #[.slice a n cap, .slice a' n cap'] w fun e w' => e = .returned (.bool true) ∧ Below w.heap.size w w' := by
  obtain ⟨hl, hm, hc, -⟩ := h
  obtain ⟨-, -, hc', -⟩ := h'
  unfold maxLen at hm
  have HN := Lib.hid hl; clear hl
  by_cases h0 : 0 < n
  · obtain ⟨b, off, rfl, hcc⟩ := hc h0; clear hc
    obtain ⟨b', off', rfl, hcc'⟩ := hc' h0; clear hc'
    go_enter Try.func26, Try.ntmps26
    go_wp2
    go_loopw [5] (fun i wr => ∃ k : Nat, k ≤ n ∧ i = .int .i64 k ∧ Below w.heap.size w wr) (fun i _ => n - (intOf i).toNat)
    case atStart => exact ⟨0, Nat.zero_le _, rfl, Below.refl _ _⟩
    case round =>
      obtain ⟨k, hk, rfl, hb⟩ := hrel
      by_cases hlt : k < n
      · obtain ⟨g1, g2, ⟨x, g3, hx⟩, g4, ⟨y, g5, hy⟩, z, g6, hz⟩ := (hcc k hlt).below hb
        obtain ⟨j1, j2, ⟨x', j3, hx'⟩, j4, ⟨y', j5, hy'⟩, z', j6, hz'⟩ := (hcc' k hlt).below hb
        obtain ⟨a1, n1, cap1, rfl, r1, -, -⟩ := hx
        obtain ⟨a2, n2, cap2, rfl, r2, -, -⟩ := hy
        obtain ⟨a3, n3, cap3, rfl, r3, -, -⟩ := hz
        obtain ⟨a4, n4, cap4, rfl, r4, -, -⟩ := hx'
        obtain ⟨a5, n5, cap5, rfl, r5, -, -⟩ := hy'
        obtain ⟨a6, n6, cap6, rfl, r6, -, -⟩ := hz'
        obtain rfl : n1 = n4 := by rw [← r1.1, ← r4.1]
        obtain rfl : n2 = n5 := by rw [← r2.1, ← r5.1]
        obtain rfl : n3 = n6 := by rw [← r3.1, ← r6.1]
        have HR1 := Lib.hid r1; have HR4 := Lib.hid r4
        have HR2 := Lib.hid (show RowF wr a2 n2 a3 n3 (L.getD k noSlt).res from ⟨r2, r3⟩)
        have HR5 := Lib.hid (show RowF wr a5 n2 a6 n3 (L.getD k noSlt).res from ⟨r5, r6⟩)
        clear hcc hcc' r1 r2 r3 r4 r5 r6
        obtain ⟨s, hs⟩ : ∃ s, s = L.getD k noSlt := ⟨_, rfl⟩
        rw [← hs] at g1 g2 g4 j1 j2 j4 HR1 HR2 HR4 HR5
        clear hs
        go_wp2
        go_still_tail 8, (by kernel_rfl)
        go_wp2_with fail
        refine (eqSlot_same s n1 n2 n3 a1 a2 a3 a4 a5 a6 cap1 cap2 cap3 cap4 cap5 cap6 _ (show RowI wr.drew _ _ s.from_ from HR1.out) (show RowI wr.drew _ _ s.from_ from HR4.out) (show RowF wr.drew _ _ _ _ s.res from HR2.out) (show RowF wr.drew _ _ _ _ s.res from HR5.out)).mono ?_; rintro e w1 ⟨rfl, hb1⟩
        go_wp2
        go_roundw
        case rel => exact ⟨k + 1, by omega, by go_num, by first | exact hb.trans (hb1.mono hb.size) | exact hb.drew.trans (hb1.mono hb.size) | exact (below_drewN' hb _).trans (hb1.mono hb.size)⟩
        case measure => simp [intOf]; omega
      · clear hcc hcc'
        go_wp2
        go_ret
        exact ⟨rfl, hb⟩
  · obtain rfl : n = 0 := by omega
    clear hc hc'
    go_enter Try.func26, Try.ntmps26
    go_wp2
    go_loop [5] (fun i => i = .int .i64 0) (fun _ => 0)
    case atStart => rfl
    case round =>
      subst hrel
      go_wp2
      go_ret
      exact ⟨rfl, Below.refl _ _⟩
set_option maxRecDepth 100000 in
set_option maxHeartbeats 2000000 in
theorem eqEngine_same (v1 v2 v3 v4 u1 u2 u3 u4 : Value) (e : Eng) (w : World) (h : EngRd w v1 v2 v3 v4 e) (h' : EngRd w u1 u2 u3 u4 e) :
    Calls Try.prog 10 #[.agg #[v1, v2, v3, v4], .agg #[u1, u2, u3, u4]] w fun en w' => en = .returned (.bool true) ∧ Below w.heap.size w w' := by
  obtain ⟨⟨a1, n1, c1, rfl, r1, -, -⟩, ⟨a2, n2, c2, rfl, r2, -, -⟩, ⟨a3, n3, c3, rfl, r3, -, -⟩, a4, n4, c4, rfl, r4, -, -⟩ := h
  obtain ⟨⟨b1, m1, d1, rfl, s1, -, -⟩, ⟨b2, m2, d2, rfl, s2, -, -⟩, ⟨b3, m3, d3, rfl, s3, -, -⟩, b4, m4, d4, rfl, s4, -, -⟩ := h'
  obtain rfl : n1 = m1 := by rw [← r1.1, ← s1.1]
  obtain rfl : n2 = m2 := by rw [← r2.1, ← s2.1]
  obtain rfl : n3 = m3 := by rw [← r3.1, ← s3.1]
  obtain rfl : n4 = m4 := by rw [← r4.1, ← s4.1]
  have hb0 := ((Below.refl w.heap.size w).alloc (Nat.le_refl _) (.cells #[.slice a1 n1 c1, .slice a2 n2 c2, .slice a3 n3 c3, .slice a4 n4 c4] 31)).alloc (by simp) (.cells #[.slice b1 n1 d1, .slice b2 n2 d2, .slice b3 n3 d3, .slice b4 n4 d4] 31)
  have q1 : ((w.alloc (.cells #[.slice a1 n1 c1, .slice a2 n2 c2, .slice a3 n3 c3, .slice a4 n4 c4] 31)).alloc (.cells #[.slice b1 n1 d1, .slice b2 n2 d2, .slice b3 n3 d3, .slice b4 n4 d4] 31)).heap.size = w.heap.size + 2 := by simp
  have hg1 := (egAt_new w 31 (.slice a1 n1 c1) (.slice a2 n2 c2) (.slice a3 n3 c3) (.slice a4 n4 c4)).below ((Below.refl _ _).alloc (Nat.le_refl _) (.cells #[.slice b1 n1 d1, .slice b2 n2 d2, .slice b3 n3 d3, .slice b4 n4 d4] 31))
  have hg2 := egAt_new (w.alloc (.cells #[.slice a1 n1 c1, .slice a2 n2 c2, .slice a3 n3 c3, .slice a4 n4 c4] 31)) 31 (.slice b1 n1 d1) (.slice b2 n2 d2) (.slice b3 n3 d3) (.slice b4 n4 d4)
  rw [show (w.alloc (.cells #[.slice a1 n1 c1, .slice a2 n2 c2, .slice a3 n3 c3, .slice a4 n4 c4] 31)).heap.size = w.heap.size + 1 by simp] at hg2
  have HA := Lib.hid (fun (W : World) (hb : Below (w.heap.size + 2) ((w.alloc (.cells #[.slice a1 n1 c1, .slice a2 n2 c2, .slice a3 n3 c3, .slice a4 n4 c4] 31)).alloc (.cells #[.slice b1 n1 d1, .slice b2 n2 d2, .slice b3 n3 d3, .slice b4 n4 d4] 31)) W) =>
    show EgAt W w.heap.size (.slice a1 n1 c1) (.slice a2 n2 c2) (.slice a3 n3 c3) (.slice a4 n4 c4) ∧ EgAt W (w.heap.size + 1) (.slice b1 n1 d1) (.slice b2 n2 d2) (.slice b3 n3 d3) (.slice b4 n4 d4) ∧ RowA W a2 n2 e.list ∧ RowA W b2 n2 e.list ∧ RowV W a3 n3 e.vers ∧ RowV W b3 n3 e.vers ∧ RowSl W a4 n4 e.slots ∧ RowSl W b4 n4 e.slots from by
      have hb' := hb
      rw [← q1] at hb'
      exact ⟨hg1.below hb', hg2.below hb', (r2.below hb0).below hb', (s2.below hb0).below hb', (r3.below hb0).below hb', (s3.below hb0).below hb', (r4.below hb0).below hb', (s4.below hb0).below hb'⟩)
  have HR1 := Lib.hid (r1.below hb0); have HS1 := Lib.hid (s1.below hb0)
  have HB := Lib.hid hb0
  clear r1 r2 r3 r4 s1 s2 s3 s4 hb0 hg1 hg2
  go_enter Try.func10, Try.ntmps10
  go_wp2_with fail
  refine (eqEntryS_same a1 b1 n1 c1 d1 e.base _ HR1.out HS1.out).mono ?_; rintro en w1 ⟨rfl, hb1⟩
  rw [q1] at hb1
  obtain ⟨p1, p2, p3, p4, p5, p6, p7, p8⟩ := HA.out w1 hb1
  have x1 := p1.c1; have y1 := p2.c1
  have HB1 := Lib.hid hb1
  clear p1 p2 p5 p6 p7 p8 hb1
  go_wp2_with fail
  refine (eqActionS_same a2 b2 n2 c2 d2 e.list _ p3 p4).mono ?_; rintro en w2 ⟨rfl, hb2⟩
  have hb2' := HB1.out.trans (hb2.mono (by rw [← q1]; exact Nat.le_trans (Nat.le_of_eq rfl) (by have := HB1.out.size; omega)))
  obtain ⟨p1, p2, p3', p4', p5, p6, p7, p8⟩ := HA.out w2 hb2'
  have x2 := p1.c2; have y2 := p2.c2
  have HB2 := Lib.hid hb2'
  clear p1 p2 p3 p4 p3' p4' p7 p8 hb2 hb2' x1 y1
  go_wp2_with fail
  refine (eqVersionS_same a3 b3 n3 c3 d3 e.vers _ p5 p6).mono ?_; rintro en w3 ⟨rfl, hb3⟩
  have hb3' := HB2.out.trans (hb3.mono (by have := HB2.out.size; omega))
  obtain ⟨p1, p2, p3, p4, p5', p6', p7, p8⟩ := HA.out w3 hb3'
  have x3 := p1.c3; have y3 := p2.c3
  have HB3 := Lib.hid hb3'
  clear p1 p2 p3 p4 p5 p6 p5' p6' hb3 hb3' x2 y2
  go_wp2_with fail
  refine (eqSlotS_same a4 b4 n4 c4 d4 e.slots _ p7 p8).mono ?_; rintro en w4 ⟨rfl, hb4⟩
  have hb4' := HB3.out.trans (hb4.mono (by have := HB3.out.size; omega))
  have HB4 := Lib.hid hb4'
  clear p7 p8 hb4 hb4' x3 y3
  go_wp2
  go_ret
  exact ⟨rfl, HB.out.trans (HB4.out.mono (by omega))⟩
end Go.Proofs.Ythigpbmeiblhdaa

/- What the walks of exact laws share (gen8/exact.py): rows that are owned, marks of actions. -/
import Derived.Test.YtaaffpolmecicabGreatConvA
import Derived.Test.YtaaffpolmecicabGreatConv

namespace Go.Proofs.YtaaffpolmecicabGreat
open Go.RowKit
set_option linter.unusedVariables false
theorem rowA_owned {w : World} {B : Nat} {e : TypeId} {g n cap : Nat} {l : List Acn} (h : w.ownsRow B e 4 (.slice (some ⟨g, 0, none⟩) n cap) n (flatA l)) (hl : l.length = n) (hm : n ≤ 4000000) (hw : WfAs l) : RowA w (some ⟨g, 0, none⟩) n l := by
  subst hl
  obtain ⟨g', c', e', -, -, hr, -⟩ := rowA_of_own (⟨h, by simp⟩ : Own _ _ _ _ _ _ _) hm hw
  simp only [Value.slice.injEq, true_and, Option.some.injEq, Addr.mk.injEq, and_true] at e'
  obtain ⟨rfl, rfl⟩ := e'
  exact hr
theorem grownBy_transX {a b c : World} {row : Option Nat} (h : a.grownBy b row) (k : b.grownBy c row) : a.grownBy c row :=
  ⟨k.os.trans h.os, k.tape.trans h.tape, k.output.trans h.output, Nat.le_trans h.size k.size, fun p hp hn => (k.block p (Nat.lt_of_lt_of_le hp h.size) hn).trans (h.block p hp hn)⟩
set_option maxHeartbeats 2000000 in
theorem markActionS_ownX (B g n cap : Nat) (xs : List Value) (k : Int) (w : World) (h : w.ownsRow B 87 4 (.slice (some ⟨g, 0, none⟩) n cap) n xs) (hn : n ≤ 4000000) (hk0 : 0 ≤ k) (hk1 : k ≤ 100000000) :
    Calls Tryz.prog 100 #[.slice (some ⟨g, 0, none⟩) n cap, .int .i64 k] w fun e w' => e = .returned (.int .i64 (k + 4 * n)) ∧ w.grownBy w' (some g) := by
  go_enter Tryz.func100, Tryz.ntmps100
  go_wp2
  go_loopw [1, 5] (fun q i wr => ∃ j : Nat, j ≤ n ∧ i = .int .i64 j ∧ q = .int .i64 (k + 4 * j) ∧ (∃ ys, wr.ownsRow B 87 4 (.slice (some ⟨g, 0, none⟩) n cap) n ys) ∧ w.grownBy wr (some g)) (fun _ i _ => n - (intOf i).toNat)
  case atStart => exact ⟨0, Nat.zero_le _, rfl, by simp, ⟨xs, h⟩, World.grownBy.refl _ _⟩
  case round =>
    obtain ⟨j, hj, rfl, rfl, ⟨ys, hown⟩, hg⟩ := hrel
    clear h
    by_cases hlt : j < n
    · have hl := hown.1
      have hex : ∀ i, i < 4 → ∃ u, wr.cell? ⟨g, j * 4 + i, none⟩ = some u := fun i hi => by
        rw [hown.cellAt (j * 4 + i) (by omega)]; exact ⟨_, List.getElem?_eq_getElem (by omega)⟩
      obtain ⟨u0, hu0⟩ := hex 0 (by omega)
      obtain ⟨u1, hu1⟩ := hex 1 (by omega)
      obtain ⟨u2, hu2⟩ := hex 2 (by omega)
      obtain ⟨u3, hu3⟩ := hex 3 (by omega)
      have hf0 := hown.frozenAt (j * 4)
      have hf1 := hown.frozenAt (j * 4 + 1)
      have hf2 := hown.frozenAt (j * 4 + 2)
      have hf3 := hown.frozenAt (j * 4 + 3)
      rw [Nat.add_zero] at hu0
      obtain ⟨s0, t0⟩ := hown.stored (j * 4) (.int .i64 (k + 4 * j))
      obtain ⟨s1, t1⟩ := s0.stored (j * 4 + 1) (.int .i64 (k + 4 * j + 1))
      obtain ⟨s2, t2⟩ := s1.stored (j * 4 + 2) (.int .i64 (k + 4 * j + 1 + 1))
      obtain ⟨s3, t3⟩ := s2.stored (j * 4 + 3) (.int .i64 (k + 4 * j + 1 + 1 + 1))
      have HST := Lib.hid s3
      have HG := Lib.hid (grownBy_transX hg (grownBy_transX (grownBy_set wr g (j * 4) (.int .i64 (k + 4 * j))) (grownBy_transX (grownBy_set _ g (j * 4 + 1) (.int .i64 (k + 4 * j + 1))) (grownBy_transX (grownBy_set _ g (j * 4 + 2) (.int .i64 (k + 4 * j + 1 + 1))) (grownBy_set _ g (j * 4 + 3) (.int .i64 (k + 4 * j + 1 + 1 + 1)))))))
      clear s0 t0 s1 t1 s2 t2 s3 t3 hg hown hex hl
      go_wp2
      go_roundw
      case rel => exact ⟨j + 1, by omega, by go_num, by congr 1; omega, ⟨_, HST.out⟩, HG.out⟩
      case measure => simp [intOf]; omega
    · obtain rfl : j = n := by omega
      go_wp2
      go_ret
      exact ⟨rfl, hg⟩
/-- A new list of ints, of the call's own. -/
def NewIO (w : World) (l : List Int) (e : Ending) (w' : World) : Prop :=
  ∃ v, e = .returned v ∧ Own w' w.heap.size 3 1 v l.length (l.map (Value.int .i64)) ∧ (∀ x ∈ l, (Lit.int .i64 x).wf = true) ∧ Below w.heap.size w w'
set_option maxHeartbeats 400000 in
theorem toIntS_own (a : Option Addr) (len cap : Nat) (l : List Int) (w : World) (h : RowI w a len l) (hs : len ≤ 1048576) :
    Calls Tryz.prog 180 #[.slice a len cap] w (NewIO w l) := by
  have HR := Lib.hid h
  obtain ⟨hl, -, hc, -⟩ := h
  have HL := Lib.hid hl; clear hl
  obtain ⟨i0, hi, hz0, hz1, hz2⟩ := info_parts infoInt
  go_enter Tryz.func180, Tryz.ntmps180
  go_wp2_with (first | (at_make; refine wpList_make_full _ rfl (.tmp 6) (.tmp 6) 65 rfl w.heap.size 3 i0 (.int .i64 0) 1 Tryz.underlying65 hi hz0 hz1 .i64 .i64 len len len rfl rfl rfl rfl (by rw [hz2]; omega) (by unfold maxLen; omega) (Nat.le_refl _) ?_; intro w1 hown hgrow; clear hi hz0 hz1 hz2) | go_in)
  have hcells : (madeCells (Value.int .i64 0).cells (len * 1)).toList = (fillI l 0).map (Value.int .i64) := by
    rw [fillI_zero, HL.out, Nat.mul_one]; exact (toList_madeCells_one _ _).trans (by simp)
  rw [hcells] at hown; clear hcells
  have hb1 : Below w.heap.size w w1 := (Below.refl _ _).grown hgrow (Nat.le_refl _) (fun k hk => by simp at hk)
  clear hgrow
  by_cases h0 : 0 < len
  · obtain ⟨b, off, rfl, hcc⟩ := hc h0; clear hc; have hc := hcc; clear hcc
    have hbB : b < w.heap.size := World.block_lt_of_cell? w ⟨b, off + 0, none⟩ (hc 0 h0)
    go_loopw [4] (fun i wr => ∃ k : Nat, k ≤ len ∧ i = .int .i64 k ∧ wr.ownsRow w.heap.size 3 1 (.slice (some ⟨w.heap.size, 0, none⟩) len len) len ((fillI l k).map (Value.int .i64)) ∧ Below w.heap.size w wr) (fun i _ => len - (intOf i).toNat)
    case atStart => exact ⟨0, Nat.zero_le _, rfl, hown, hb1⟩
    case round =>
      obtain ⟨k, hk, rfl, hown, hb⟩ := hrel
      by_cases hlt : k < len
      · have hck : wr.cell? ⟨b, off + k, none⟩ = some (.int .i64 (l.getD k 0)) := (hb.cell (p := ⟨b, off + k, none⟩) hbB).trans (hc k hlt)
        have hst := (hown.stored k (.int .i64 (l.getD k 0))).1
        have hsb := hb.setCell (p := ⟨w.heap.size, k, none⟩) (Nat.le_refl _) (.int .i64 (l.getD k 0))
        rw [← List.map_set, fillI_set l k (by rw [HL.out]; exact hlt)] at hst
        have HST := Lib.hid hst
        have HSB := Lib.hid hsb
        have hfr := hown.frozenAt k
        have hce := hown.cellAt k (by omega)
        rw [List.getElem?_map, List.getElem?_eq_getElem (by rw [fillI_len l k (by rw [HL.out]; exact hk), HL.out]; exact hlt)] at hce
        simp only [Option.map_some] at hce
        clear hst hsb hown hc
        obtain ⟨n, hn'⟩ : ∃ n, n = l.getD k 0 := ⟨_, rfl⟩
        obtain ⟨n2, hn2⟩ : ∃ n2, n2 = (fillI l k)[k]'(by rw [fillI_len l k (by rw [HL.out]; exact hk), HL.out]; exact hlt) := ⟨_, rfl⟩
        rw [← hn'] at hck HST HSB
        rw [← hn2] at hce
        clear hn' hn2 hb1
        go_wp2
        go_roundw
        case rel => exact ⟨k + 1, by omega, by go_num, HST.out, HSB.out⟩
        case measure => simp [intOf]; omega
      · have e : fillI l k = l := by rw [show k = l.length by rw [HL.out]; omega]; exact fillI_all l
        rw [e] at hown
        have HO := Lib.hid hown
        clear hown e hc
        go_wp2
        go_ret
        have hrow := HR.out
        exact ⟨_, rfl, ⟨by rw [hrow.1]; exact HO.out, by simp⟩, hrow.2.2.2, hb⟩
  · obtain rfl : len = 0 := by omega
    obtain rfl : l = [] := List.eq_nil_of_length_eq_zero HL.out
    clear hc
    have HO := Lib.hid hown
    clear hown
    go_loopw [4] (fun i wr => i = .int .i64 0 ∧ wr = w1) (fun _ _ => 0)
    case atStart => exact ⟨rfl, rfl⟩
    case round =>
      obtain ⟨rfl, rfl⟩ := hrel
      go_wp2
      go_ret
      exact ⟨_, rfl, ⟨HO.out, by simp⟩, (fun n hn => by cases hn), hb1⟩
end Go.Proofs.YtaaffpolmecicabGreat

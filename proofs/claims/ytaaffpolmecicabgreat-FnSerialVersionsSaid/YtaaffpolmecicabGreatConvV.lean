/- The contracts of the laws' own helpers over Version: toVersion, eqVersion, szVersionS, toVersionS, eqVersionS, markVersionS, heldVersionS (gen9/structs.py). -/
import Derived.Test.YtaaffpolmecicabGreatVerA
import Derived.Test.YtaaffpolmecicabGreatExLib
import Derived.StillTailTactics
namespace Go.Proofs.YtaaffpolmecicabGreat
open Go.RowKit
set_option linter.unusedVariables false
theorem infoVer : (Tryz.prog.info? 73).map (fun i => (i.zero, i.size, i.bytes)) = some (some (.agg #[.int .i64 0, .int .i64 0, .int .i64 0]), 3, 24) := by kernel_rfl
theorem toVersion_any (p0 p1 p2 : Int) (w : World) :
    Calls Tryz.prog 152 #[.agg #[.int .i64 p0, .int .i64 p1, .int .i64 p2]] w fun e w' => e = .returned (.agg #[.int .i64 p0, .int .i64 p1, .int .i64 p2]) ∧ Below w.heap.size w w' := by
  go_enter Tryz.func152, Tryz.ntmps152
  go_wp2
  refine bodyPost_ret (v := .agg #[.int .i64 p0, .int .i64 p1, .int .i64 p2]) ?_ rfl ⟨rfl, ?_⟩
  · simp [results, Tryz.results152, go_sem]
  · exact ((((Below.refl _ _).alloc (Nat.le_refl _) _).alloc (by simp) _).alloc (by simp; omega) _)
theorem eqVersion_same (p0 p1 p2 : Int) (w : World) :
    Calls Tryz.prog 155 #[.agg #[.int .i64 p0, .int .i64 p1, .int .i64 p2], .agg #[.int .i64 p0, .int .i64 p1, .int .i64 p2]] w fun e w' => e = .returned (.bool true) ∧ Below w.heap.size w w' := by
  go_enter Tryz.func155, Tryz.ntmps155
  go_wp2
  go_ret
  exact ⟨rfl, (((Below.refl _ _).alloc (Nat.le_refl _) _).alloc (by simp) _)⟩
theorem szVersionS_any (a : Option Addr) (n cap : Nat) (left : Int) (w : World) (h0 : 0 ≤ left) (h1 : left ≤ 1048576) (hn : n ≤ maxLen) :
    Calls Tryz.prog 86 #[.slice a n cap, .int .i64 left] w fun e w' => e = .returned (.int .i64 (if (n : Int) ≤ left then left - n else -1)) ∧ w = w' := by
  unfold maxLen at hn
  by_cases h : (n : Int) ≤ left
  · rw [if_pos h]
    go_enter Tryz.func86, Tryz.ntmps86
    go_wp2
    go_ret
    exact ⟨rfl, rfl⟩
  · rw [if_neg h]
    go_enter Tryz.func86, Tryz.ntmps86
    go_wp2
    go_ret
    exact ⟨rfl, rfl⟩
set_option maxRecDepth 100000 in
set_option maxHeartbeats 1000000 in
theorem eqVersionS_same (a a' : Option Addr) (n cap cap' : Nat) (l : List Ver) (w : World) (h : RowV w a n l) (h' : RowV w a' n l) :
    Calls Tryz.prog 98 #[.slice a n cap, .slice a' n cap'] w fun e w' => e = .returned (.bool true) ∧ Below w.heap.size w w' := by
  obtain ⟨hl, hm, hc, -⟩ := h
  obtain ⟨-, -, hc', -⟩ := h'
  unfold maxLen at hm
  clear hl
  by_cases h0 : 0 < n
  · obtain ⟨b, off, rfl, hcc⟩ := hc h0; clear hc; have hc := hcc; clear hcc
    obtain ⟨b', off', rfl, hcc⟩ := hc' h0; clear hc'; have hc' := hcc; clear hcc
    have hbB : b < w.heap.size := World.block_lt_of_cell? w ⟨b, off + 0 * 3, none⟩ (hc 0 h0).1
    have hbB' : b' < w.heap.size := World.block_lt_of_cell? w ⟨b', off' + 0 * 3, none⟩ (hc' 0 h0).1
    go_enter Tryz.func98, Tryz.ntmps98
    go_wp2
    go_loopw [5] (fun i wr => ∃ k : Nat, k ≤ n ∧ i = .int .i64 k ∧ Below w.heap.size w wr) (fun i _ => n - (intOf i).toNat)
    case atStart => exact ⟨0, Nat.zero_le _, rfl, Below.refl _ _⟩
    case round =>
      obtain ⟨k, hk, rfl, hb⟩ := hrel
      by_cases hlt : k < n
      · obtain ⟨d1, d2, d3⟩ := hc k hlt
        have c1 := (hb.cell (p := ⟨b, off + k * 3, none⟩) hbB).trans d1
        have c2 := (hb.cell (p := ⟨b, off + k * 3 + 1, none⟩) hbB).trans d2
        have c3 := (hb.cell (p := ⟨b, off + k * 3 + 2, none⟩) hbB).trans d3
        clear d1 d2 d3
        obtain ⟨d1, d2, d3⟩ := hc' k hlt
        have e1 := (hb.cell (p := ⟨b', off' + k * 3, none⟩) hbB').trans d1
        have e2 := (hb.cell (p := ⟨b', off' + k * 3 + 1, none⟩) hbB').trans d2
        have e3 := (hb.cell (p := ⟨b', off' + k * 3 + 2, none⟩) hbB').trans d3
        clear hc hc' d1 d2 d3
        obtain ⟨x, hx⟩ : ∃ x, x = l.getD k noV := ⟨_, rfl⟩
        rw [← hx] at c1 c2 c3 e1 e2 e3
        clear hx
        obtain ⟨p0, p1, p2⟩ := x
        simp only at c1 c2 c3 e1 e2 e3
        go_wp2
        go_still_tail 8, (by kernel_rfl)
        go_wp2_with fail
        refine (eqVersion_same _ _ _ _).mono ?_; rintro e w1 ⟨rfl, hb1⟩
        go_wp2
        go_roundw
        case rel => exact ⟨k + 1, by omega, by go_num, by first | exact hb.trans (hb1.mono hb.size) | exact hb.drew.trans (hb1.mono hb.size) | exact (below_drewN' hb _).trans (hb1.mono hb.size)⟩
        case measure => simp [intOf]; omega
      · clear hc hc'
        go_wp2
        go_ret
        exact ⟨rfl, hb⟩
  · obtain rfl : n = 0 := by omega
    clear hc hc'
    go_enter Tryz.func98, Tryz.ntmps98
    go_wp2
    go_loop [5] (fun i => i = .int .i64 0) (fun _ => 0)
    case atStart => rfl
    case round =>
      subst hrel
      go_wp2
      go_ret
      exact ⟨rfl, Below.refl _ _⟩
/-- The first k of l, then zeros. -/
def fillV (l : List Ver) (k : Nat) : List Ver := l.take k ++ List.replicate (l.length - k) noV
theorem fillV_len (l : List Ver) (k : Nat) (h : k ≤ l.length) : (fillV l k).length = l.length := by simp [fillV]; omega
theorem fillV_all (l : List Ver) : fillV l l.length = l := by simp [fillV]
theorem takeV_snoc (l : List Ver) (k : Nat) (h : k < l.length) : l.take (k + 1) = l.take k ++ [l.getD k noV] := by
  rw [List.take_succ_eq_append_getElem h, List.getD_eq_getElem?_getD, List.getElem?_eq_getElem h]; rfl
theorem flatV_set (l : List Ver) (k : Nat) (x : Ver) : flatV (l.set k x) = ((((flatV l).set (k * 3) (.int .i64 x.key)).set (k * 3 + 1) (.int .i64 x.by_)).set (k * 3 + 2) (.int .i64 x.val)) := by
  induction l generalizing k with
  | nil => simp [flatV]
  | cons e r ih =>
    cases k with
    | zero => simp [flatV_cons]
    | succ k =>
      rw [show (k + 1) * 3 = k * 3 + 1 + 1 + 1 by omega, show k * 3 + 1 + 1 + 1 + 1 = (k * 3 + 1) + 1 + 1 + 1 by omega, show k * 3 + 1 + 1 + 1 + 2 = (k * 3 + 2) + 1 + 1 + 1 by omega]
      simp only [List.set_cons_succ, flatV_cons, ih]
theorem fillV_set (l : List Ver) (k : Nat) (h : k < l.length) : (fillV l k).set k (l.getD k noV) = fillV l (k + 1) := by
  unfold fillV
  have e : l.length - k = (l.length - (k + 1)) + 1 := by omega
  rw [e, List.replicate_succ, List.set_append_right _ _ (by simp; omega), takeV_snoc l k h]
  simp [Nat.min_eq_left (Nat.le_of_lt h)]
theorem flatV_zeros (n : Nat) : flatV (List.replicate n noV) = List.replicate (n * 3) (.int .i64 0) := by
  induction n with
  | zero => rfl
  | succ n ih => rw [List.replicate_succ, show (n + 1) * 3 = n * 3 + 1 + 1 + 1 by omega, List.replicate_succ, List.replicate_succ, List.replicate_succ]; simp [flatV_cons, noV] at ih ⊢; exact ih
theorem made_zerosV (n : Nat) : (madeCells (Value.agg #[.int .i64 0, .int .i64 0, .int .i64 0]).cells (n * 3)).toList = List.replicate (n * 3) (.int .i64 0) := by
  unfold madeCells
  apply List.ext_getElem
  · simp [Value.cells]
  · intro i h1 h2
    simp [Value.cells] at h1 ⊢
    rcases (by omega : i % 3 = 0 ∨ i % 3 = 1 ∨ i % 3 = 2) with h | h | h <;> simp [h]
/-- One owned struct stored. -/
theorem Own.storeV {w : World} {B : Nat} {e : TypeId} {g n cap : Nat} {l : List Ver} (h : Own w B e 3 (.slice (some ⟨g, 0, none⟩) n cap) n (flatV l)) (k : Nat) (x : Ver) :
    Own (((w.setCell ⟨g, k * 3, none⟩ (.int .i64 x.key)).setCell ⟨g, k * 3 + 1, none⟩ (.int .i64 x.by_)).setCell ⟨g, k * 3 + 2, none⟩ (.int .i64 x.val)) B e 3 (.slice (some ⟨g, 0, none⟩) n cap) n (flatV (l.set k x)) := by
  rw [flatV_set]
  exact ⟨(((h.1.stored (k * 3) _).1.stored (k * 3 + 1) _).1.stored (k * 3 + 2) _).1, h.2⟩
set_option maxHeartbeats 1000000 in
theorem toVersionS_any (a : Option Addr) (n cap : Nat) (l : List Ver) (w : World) (h : RowV w a n l) (hn : n ≤ 1048576) :
    Calls Tryz.prog 92 #[.slice a n cap] w (NewV w 73 l) := by
  have HR := Lib.hid h
  obtain ⟨hl, -, hc, -⟩ := h
  have HL := Lib.hid hl; clear hl
  obtain ⟨i0, hi, hz0, hz1, hz2⟩ := info_parts infoVer
  go_enter Tryz.func92, Tryz.ntmps92
  go_wp2_with (first | (at_make; refine wpList_make_full _ rfl (.tmp 6) (.tmp 6) 35 rfl w.heap.size 73 i0 (.agg #[.int .i64 0, .int .i64 0, .int .i64 0]) 3 Tryz.underlying35 hi hz0 hz1 .i64 .i64 n n n rfl rfl rfl rfl (by rw [hz2]; omega) (by unfold maxLen; omega) (Nat.le_refl _) ?_; intro w1 hown hgrow; clear hi hz0 hz1 hz2))
  rw [made_zerosV, ← flatV_zeros] at hown
  have hb1 : Below w.heap.size w w1 := (Below.refl _ _).grown hgrow (Nat.le_refl _) (fun k hk => by simp at hk)
  have hown1 : Own w1 w.heap.size 73 3 (.slice (some ⟨w.heap.size, 0, none⟩) n n) n (flatV (fillV l 0)) := ⟨by rw [show fillV l 0 = List.replicate n noV by simp [fillV, HL.out]]; exact hown, by simp⟩
  clear hgrow hown
  by_cases h0 : 0 < n
  · obtain ⟨b, off, rfl, hcc⟩ := hc h0; clear hc; have hc := hcc; clear hcc
    have hbB : b < w.heap.size := World.block_lt_of_cell? w ⟨b, off + 0 * 3, none⟩ (hc 0 h0).1
    go_loopw [4] (fun i wr => ∃ k : Nat, k ≤ n ∧ i = .int .i64 k ∧ Own wr w.heap.size 73 3 (.slice (some ⟨w.heap.size, 0, none⟩) n n) n (flatV (fillV l k)) ∧ Below w.heap.size w wr) (fun i _ => n - (intOf i).toNat)
    case atStart => exact ⟨0, Nat.zero_le _, rfl, hown1, hb1⟩
    case round =>
      obtain ⟨k, hk, rfl, hown, hb⟩ := hrel
      clear hown1 hb1
      by_cases hlt : k < n
      · obtain ⟨d1, d2, d3⟩ := hc k hlt
        have c1 := (hb.cell (p := ⟨b, off + k * 3, none⟩) hbB).trans d1
        have c2 := (hb.cell (p := ⟨b, off + k * 3 + 1, none⟩) hbB).trans d2
        have c3 := (hb.cell (p := ⟨b, off + k * 3 + 2, none⟩) hbB).trans d3
        have HF := Lib.hid (fillV_set l k (by rw [HL.out]; exact hlt))
        clear hc d1 d2 d3
        obtain ⟨x, hx⟩ : ∃ x, x = l.getD k noV := ⟨_, rfl⟩
        rw [← hx] at c1 c2 c3
        have HX := Lib.hid hx
        clear hx
        obtain ⟨p0, p1, p2⟩ := x
        simp only at c1 c2 c3
        go_wp2_with fail
        refine (toVersion_any p0 p1 p2 _).mono ?_; rintro e w2 ⟨rfl, hb2⟩
        have hb3 := hb.trans (hb2.mono hb.size)
        have hown2 : Own w2 w.heap.size 73 3 (.slice (some ⟨w.heap.size, 0, none⟩) n n) n (flatV (fillV l k)) := hown.below hb2
        have hfl := fillV_len l k (by rw [HL.out]; exact hk)
        have hfr1 := hown2.1.frozenAt (k * 3)
        have hfr2 := hown2.1.frozenAt (k * 3 + 1)
        have hfr3 := hown2.1.frozenAt (k * 3 + 2)
        have hce1 := hown2.1.cellAt (k * 3) (by omega)
        have hce2 := hown2.1.cellAt (k * 3 + 1) (by omega)
        have hce3 := hown2.1.cellAt (k * 3 + 2) (by omega)
        obtain ⟨f1, f2, f3⟩ := flatV_get (fillV l k) k (by rw [hfl, HL.out]; exact hlt)
        rw [f1] at hce1
        rw [f2] at hce2
        rw [f3] at hce3
        clear f1 f2 f3
        have hst := hown2.storeV k ⟨p0, p1, p2⟩
        rw [HX.out, HF.out] at hst
        simp only [← HX.out] at hst
        have HST := Lib.hid hst
        have HSB := Lib.hid (((hb3.setCell (p := ⟨w.heap.size, k * 3, none⟩) (Nat.le_refl _) (.int .i64 p0)).setCell (p := ⟨w.heap.size, k * 3 + 1, none⟩) (Nat.le_refl _) (.int .i64 p1)).setCell (p := ⟨w.heap.size, k * 3 + 2, none⟩) (Nat.le_refl _) (.int .i64 p2))
        clear hst hb hb2 hb3 hown hown2 c1 c2 c3 hfl
        go_wp2
        go_roundw
        case rel => exact ⟨k + 1, by omega, by go_num, HST.out, HSB.out⟩
        case measure => simp [intOf]; omega
      · have e : fillV l k = l := by rw [show k = l.length by rw [HL.out]; omega]; exact fillV_all l
        rw [e] at hown
        have HO := Lib.hid hown
        clear hown e hc
        go_wp2
        go_ret
        exact ⟨_, rfl, by rw [HL.out]; exact HO.out, HR.out.2.2.2, hb⟩
  · obtain rfl : n = 0 := by omega
    obtain rfl : l = [] := List.eq_nil_of_length_eq_zero HL.out
    clear hc
    have HO := Lib.hid hown1
    clear hown1
    go_loopw [4] (fun i wr => i = .int .i64 0 ∧ wr = w1) (fun _ _ => 0)
    case atStart => exact ⟨rfl, rfl⟩
    case round =>
      obtain ⟨rfl, rfl⟩ := hrel
      go_wp2
      go_ret
      exact ⟨_, rfl, HO.out, fun e he => (by cases he), hb1⟩
/-- The marks from k on. -/
def marksV (k : Int) (n : Nat) : List Ver := (List.range n).map fun i : Nat => ⟨k + 3 * i, k + 3 * i + 1, k + 3 * i + 2⟩
theorem marksV_len (k : Int) (n : Nat) : (marksV k n).length = n := by simp [marksV]
theorem marksV_get (k : Int) (n i : Nat) (h : i < n) : (marksV k n).getD i noV = ⟨k + 3 * i, k + 3 * i + 1, k + 3 * i + 2⟩ := by
  unfold marksV
  rw [List.getD_eq_getElem?_getD, List.getElem?_map, List.getElem?_range h]; rfl
/-- Marked up to i, then as before. -/
def markToV (k : Int) (l : List Ver) (i : Nat) : List Ver := marksV k i ++ l.drop i
theorem markToV_set (k : Int) (l : List Ver) (i : Nat) (h : i < l.length) : (markToV k l i).set i ⟨k + 3 * i, k + 3 * i + 1, k + 3 * i + 2⟩ = markToV k l (i + 1) := by
  unfold markToV marksV
  rw [List.set_append_right _ _ (by simp), List.range_succ, List.map_append, List.append_assoc]
  congr 1
  rw [show i - (List.map (fun i : Nat => (⟨k + 3 * (i : Int), k + 3 * (i : Int) + 1, k + 3 * (i : Int) + 2⟩ : Ver)) (List.range i)).length = 0 by simp, List.drop_eq_getElem_cons h, List.set_cons_zero]
  rfl
theorem markToV_len (k : Int) (l : List Ver) (i : Nat) (h : i ≤ l.length) : (markToV k l i).length = l.length := by simp [markToV, marksV]; omega
theorem markToV_all (k : Int) (l : List Ver) : markToV k l l.length = marksV k l.length := by simp [markToV]
theorem markToV_zero (k : Int) (l : List Ver) : markToV k l 0 = l := by simp [markToV, marksV]
/-- Marks are laid in a row that the call owns. -/
def MarkedV (w : World) (e0 : TypeId) (B g n cap : Nat) (k : Int) (e : Ending) (w' : World) : Prop :=
  e = .returned (.int .i64 (k + 3 * n)) ∧ Own w' B e0 3 (.slice (some ⟨g, 0, none⟩) n cap) n (flatV (marksV k n)) ∧ w.grownBy w' (some g)
set_option maxHeartbeats 1000000 in
theorem markVersionS_any (B g n cap : Nat) (l : List Ver) (k : Int) (w : World) (h : Own w B 73 3 (.slice (some ⟨g, 0, none⟩) n cap) n (flatV l)) (hl : l.length = n) (hn : n ≤ 4000000) (hk0 : 0 ≤ k) (hk1 : k ≤ 100000000) :
    Calls Tryz.prog 101 #[.slice (some ⟨g, 0, none⟩) n cap, .int .i64 k] w (MarkedV w 73 B g n cap k) := by
  have HL := Lib.hid hl; clear hl
  go_enter Tryz.func101, Tryz.ntmps101
  go_wp2
  go_loopw [1, 5] (fun q i wr => ∃ j : Nat, j ≤ n ∧ i = .int .i64 j ∧ q = .int .i64 (k + 3 * j) ∧ Own wr B 73 3 (.slice (some ⟨g, 0, none⟩) n cap) n (flatV (markToV k l j)) ∧ w.grownBy wr (some g)) (fun _ i _ => n - (intOf i).toNat)
  case atStart => exact ⟨0, Nat.zero_le _, rfl, by simp, by rw [markToV_zero]; exact h, World.grownBy.refl _ _⟩
  case round =>
    obtain ⟨j, hj, rfl, rfl, hown, hg⟩ := hrel
    clear h
    by_cases hlt : j < n
    · have hs0 := markToV_set k l j (by rw [HL.out]; exact hlt)
      have hml := markToV_len k l j (by rw [HL.out]; exact hj)
      obtain ⟨f1, f2, f3⟩ := flatV_get (markToV k l j) j (by rw [hml, HL.out]; exact hlt)
      have hfr1 := hown.1.frozenAt (j * 3)
      have hfr2 := hown.1.frozenAt (j * 3 + 1)
      have hfr3 := hown.1.frozenAt (j * 3 + 2)
      have hce1 := hown.1.cellAt (j * 3) (by omega)
      have hce2 := hown.1.cellAt (j * 3 + 1) (by omega)
      have hce3 := hown.1.cellAt (j * 3 + 2) (by omega)
      rw [f1] at hce1
      rw [f2] at hce2
      rw [f3] at hce3
      clear f1 f2 f3 hml
      have hst := hown.storeV j ⟨k + 3 * (j : Int), k + 3 * (j : Int) + 1, k + 3 * (j : Int) + 1 + 1⟩
      have he : (⟨k + 3 * (j : Int), k + 3 * (j : Int) + 1, k + 3 * (j : Int) + 1 + 1⟩ : Ver) = ⟨k + 3 * (j : Int), k + 3 * (j : Int) + 1, k + 3 * (j : Int) + 2⟩ := by congr 1; all_goals omega
      rw [he, hs0, ← he] at hst
      have HST := Lib.hid hst
      have HG := Lib.hid (grownBy_transX hg (grownBy_transX (grownBy_set wr g (j * 3) (.int .i64 (k + 3 * j))) (grownBy_transX (grownBy_set _ g (j * 3 + 1) (.int .i64 (k + 3 * j + 1))) (grownBy_set _ g (j * 3 + 2) (.int .i64 (k + 3 * j + 1 + 1))))))
      clear hst hg hown hs0 he
      go_wp2
      go_roundw
      case rel => exact ⟨j + 1, by omega, by go_num, by congr 1; omega, HST.out, HG.out⟩
      case measure => simp [intOf]; omega
    · obtain rfl : j = n := by omega
      have e : markToV k l j = marksV k j := by rw [← HL.out]; exact markToV_all k l
      rw [e] at hown
      have HO := Lib.hid hown
      clear hown e
      go_wp2
      go_ret
      exact ⟨rfl, HO.out, hg⟩
/-- The same, where the row may be nil. -/
theorem markVersionS_own (B n : Nat) (v : Value) (l : List Ver) (k : Int) (w : World) (h : w.ownsRow B 73 3 v n (flatV l)) (hl : l.length = n) (hn : n ≤ 4000000) (hk0 : 0 ≤ k) (hk1 : k ≤ 100000000) :
    Calls Tryz.prog 101 #[v, .int .i64 k] w fun e w' => e = .returned (.int .i64 (k + 3 * n)) ∧ w'.ownsRow B 73 3 v n (flatV (marksV k n)) ∧ w.grownBy w' v.ownBlock := by
  by_cases hv : v = .slice none 0 0
  · have h0 : n = 0 := by
      rcases h.2 with ⟨_, h1⟩ | ⟨g, cap, cur, h1, _⟩
      · exact h1
      · rw [hv] at h1; simp at h1
    subst h0; subst hv
    have HO := Lib.hid (World.ownsRow_nil w B 73 3)
    clear h hl
    go_enter Tryz.func101, Tryz.ntmps101
    go_wp2
    go_loop [1, 5] (fun q i => q = .int .i64 k ∧ i = .int .i64 0) (fun _ _ => 0)
    case atStart => exact ⟨rfl, rfl⟩
    case round =>
      obtain ⟨rfl, rfl⟩ := hrel
      go_wp2
      go_ret
      exact ⟨ret_int (by simp), HO.out, World.grownBy.refl _ _⟩
  · obtain ⟨g, cap, rfl, _, _⟩ := Own.slice ⟨h, hv⟩
    exact (markVersionS_any B g n cap l k w ⟨h, hv⟩ hl hn hk0 hk1).mono fun e w' ⟨h1, h2, h3⟩ => ⟨h1, h2.1, h3⟩
theorem wfV_marks (k : Int) (n : Nat) (h0 : 0 ≤ k) (h1 : k ≤ 100000000) (hn : n ≤ 4000000) : WfVs (marksV k n) := by
  intro e he
  obtain ⟨i, hi, rfl⟩ := List.mem_map.1 he
  have := List.mem_range.1 hi
  exact ⟨WalkArith.wf_i64 (by simp only; omega), WalkArith.wf_i64 (by simp only; omega), WalkArith.wf_i64 (by simp only; omega)⟩
theorem rowV_marked {w : World} {B : Nat} {e : TypeId} {a : Option Addr} {n cap : Nat} (h : w.ownsRow B e 3 (.slice a n cap) n (flatV (marksV 1 n))) (hn : n ≤ 4000000) : RowV w a n (marksV 1 n) :=
  rowV_owned h (marksV_len _ _) hn (wfV_marks 1 n (by omega) (by omega) hn)
end Go.Proofs.YtaaffpolmecicabGreat

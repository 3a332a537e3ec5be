/- The contracts of the laws' own helpers over ints: markIntS, heldIntS, sameInts; a list of ints that the call owns. -/
import Derived.Test.YtpaeioabmmkheaaConvE
import Derived.Test.YtpaeioabmmkheaaEqInts
namespace Go.Proofs.Ytpaeioabmmkheaa
open Go.RowKit
theorem rowI_of_own {w : World} {B : Nat} {e : TypeId} {v : Value} {l : List Int} (h : Own w B e 1 v l.length (l.map (Value.int .i64))) (hm : l.length ≤ 4000000) (hw : ∀ x ∈ l, (Lit.int .i64 x).wf = true) :
    ∃ g cap, v = .slice (some ⟨g, 0, none⟩) l.length cap ∧ B ≤ g ∧ g < w.heap.size ∧ RowI w (some ⟨g, 0, none⟩) l.length l := by
  obtain ⟨g, cap, rfl, hB, hlt⟩ := h.slice
  obtain ⟨a, c, he, hr⟩ := rowI_of_owns h.1 (by unfold maxLen; omega) hw
  simp only [Value.slice.injEq] at he
  obtain ⟨rfl, -, -⟩ := he
  exact ⟨g, cap, rfl, hB, hlt, hr⟩
theorem rowI_owned {w : World} {B : Nat} {e : TypeId} {a : Option Addr} {n cap : Nat} {l : List Int} (h : w.ownsRow B e 1 (.slice a n cap) n (l.map (Value.int .i64))) (hm : n ≤ 4000000) (hw : ∀ x ∈ l, (Lit.int .i64 x).wf = true) : RowI w a n l := by
  obtain ⟨a', c', he, hr⟩ := rowI_of_owns h (by unfold maxLen; omega) hw
  simp only [Value.slice.injEq] at he
  obtain ⟨rfl, -, -⟩ := he
  exact hr
theorem RowI.grown {w w' : World} {b n : Nat} {row : Option Nat} {l : List Int} (h : RowI w (some ⟨b, 0, none⟩) n l) (hg : w.grownBy w' row) (hne : some b ≠ row) : RowI w' (some ⟨b, 0, none⟩) n l := by
  obtain ⟨h1, h2, h3, h4⟩ := h
  refine ⟨h1, h2, fun hl => ?_, h4⟩
  obtain ⟨b', off, he, hc⟩ := h3 hl
  obtain ⟨rfl, rfl⟩ : b = b' ∧ 0 = off := by simpa using he
  exact ⟨b, 0, rfl, fun i hi => World.grownBy.cell hg (hc i hi) hne⟩
def marksI (k : Int) (n : Nat) : List Int := (List.range n).map fun i : Nat => k + i
theorem marksI_len (k : Int) (n : Nat) : (marksI k n).length = n := by simp [marksI]
theorem marksI_get (k : Int) (n i : Nat) (h : i < n) : (marksI k n).getD i 0 = k + i := by
  unfold marksI
  rw [List.getD_eq_getElem?_getD, List.getElem?_map, List.getElem?_range h]; rfl
theorem wf_marksI (k : Int) (n : Nat) (h0 : 0 ≤ k) (h1 : k ≤ 100000000) (hn : n ≤ 4000000) : ∀ x ∈ marksI k n, (Lit.int .i64 x).wf = true := by
  intro e he
  obtain ⟨i, hi, rfl⟩ := List.mem_map.1 he
  have := List.mem_range.1 hi
  exact WalkArith.wf_i64 (by omega)
def markToI (k : Int) (l : List Int) (i : Nat) : List Int := marksI k i ++ l.drop i
theorem markToI_set (k : Int) (l : List Int) (i : Nat) (h : i < l.length) : (markToI k l i).set i (k + i) = markToI k l (i + 1) := by
  unfold markToI marksI
  rw [List.set_append_right _ _ (by simp), List.range_succ, List.map_append, List.append_assoc]
  congr 1
  rw [show i - (List.map (fun i : Nat => k + (i : Int)) (List.range i)).length = 0 by simp, List.drop_eq_getElem_cons h, List.set_cons_zero]
  rfl
theorem markToI_len (k : Int) (l : List Int) (i : Nat) (h : i ≤ l.length) : (markToI k l i).length = l.length := by simp [markToI, marksI]; omega
theorem markToI_all (k : Int) (l : List Int) : markToI k l l.length = marksI k l.length := by simp [markToI]
theorem markToI_zero (k : Int) (l : List Int) : markToI k l 0 = l := by simp [markToI, marksI]
def MarkedI (w : World) (e0 : TypeId) (B g n cap : Nat) (k : Int) (e : Ending) (w' : World) : Prop :=
  e = .returned (.int .i64 (k + n)) ∧ Own w' B e0 1 (.slice (some ⟨g, 0, none⟩) n cap) n ((marksI k n).map (Value.int .i64)) ∧ w.grownBy w' (some g)
set_option maxHeartbeats 1000000 in
theorem markIntS_any (B g n cap : Nat) (l : List Int) (k : Int) (w : World) (h : Own w B 3 1 (.slice (some ⟨g, 0, none⟩) n cap) n (l.map (Value.int .i64))) (hl : l.length = n) (hn : n ≤ 4000000) (hk0 : 0 ≤ k) (hk1 : k ≤ 100000000) :
    Calls Try.prog 40 #[.slice (some ⟨g, 0, none⟩) n cap, .int .i64 k] w (MarkedI w 3 B g n cap k) := by
  have HL := Lib.hid hl; clear hl
  go_enter Try.func40, Try.ntmps40
  go_wp2
  go_loopw [1, 5] (fun q i wr => ∃ j : Nat, j ≤ n ∧ i = .int .i64 j ∧ q = .int .i64 (k + j) ∧ Own wr B 3 1 (.slice (some ⟨g, 0, none⟩) n cap) n ((markToI k l j).map (Value.int .i64)) ∧ w.grownBy wr (some g)) (fun _ i _ => n - (intOf i).toNat)
  case atStart => exact ⟨0, Nat.zero_le _, rfl, by simp, by rw [markToI_zero]; exact h, World.grownBy.refl _ _⟩
  case round =>
    obtain ⟨j, hj, rfl, rfl, hown, hg⟩ := hrel
    clear h
    by_cases hlt : j < n
    · have HS := Lib.hid (markToI_set k l j (by rw [HL.out]; exact hlt))
      have hml := markToI_len k l j (by rw [HL.out]; exact hj)
      have hfr1 := hown.1.frozenAt j
      have hce1 := hown.1.cellAt j (by omega)
      rw [List.getElem?_map, List.getElem?_eq_getElem (by rw [hml, HL.out]; exact hlt)] at hce1
      simp only [Option.map_some] at hce1
      obtain ⟨x, hx⟩ : ∃ x, x = (markToI k l j)[j]'(by rw [hml, HL.out]; exact hlt) := ⟨_, rfl⟩
      rw [← hx] at hce1
      clear hx hml
      have hst : Own (wr.setCell ⟨g, j, none⟩ (.int .i64 (k + j))) B 3 1 (.slice (some ⟨g, 0, none⟩) n cap) n ((markToI k l (j + 1)).map (Value.int .i64)) := by
        rw [← HS.out, List.map_set]; exact ⟨(hown.1.stored j (.int .i64 (k + j))).1, hown.2⟩
      have HST := Lib.hid hst
      have HG := Lib.hid (grownBy_trans hg (grownBy_set wr g j (.int .i64 (k + j))))
      clear hst hg hown
      go_wp2
      go_roundw
      case rel => exact ⟨j + 1, by omega, by go_num, by congr 1; omega, HST.out, HG.out⟩
      case measure => simp [intOf]; omega
    · obtain rfl : j = n := by omega
      have e : markToI k l j = marksI k j := by rw [← HL.out]; exact markToI_all k l
      rw [e] at hown
      have HO := Lib.hid hown
      clear hown e
      go_wp2
      go_ret
      exact ⟨rfl, HO.out, hg⟩
set_option maxHeartbeats 1000000 in
theorem heldIntS_any (a : Option Addr) (n cap : Nat) (k : Int) (w : World) (h : RowI w a n (marksI k n)) (hn : n ≤ 4000000) (hk0 : 0 ≤ k) (hk1 : k ≤ 100000000) :
    Calls Try.prog 41 #[.slice a n cap, .int .i64 k] w fun e w' => e = .returned (.int .i64 (k + n)) ∧ w = w' := by
  obtain ⟨-, hm, hc, -⟩ := h
  clear hm
  by_cases h0 : 0 < n
  · obtain ⟨b, off, rfl, hcc⟩ := hc h0; clear hc; have hc := hcc; clear hcc
    go_enter Try.func41, Try.ntmps41
    go_wp2
    go_loop [1, 5] (fun q i => ∃ j : Nat, j ≤ n ∧ i = .int .i64 j ∧ q = .int .i64 (k + j)) (fun _ i => n - (intOf i).toNat)
    case atStart => exact ⟨0, Nat.zero_le _, rfl, by simp⟩
    case round =>
      obtain ⟨j, hj, rfl, rfl⟩ := hrel
      by_cases hlt : j < n
      · have hc1 := hc j hlt
        rw [marksI_get k n j hlt] at hc1
        clear hc
        go_wp2
        go_round
        case rel => exact ⟨j + 1, by omega, by go_num, by congr 1; omega⟩
        case measure => simp [intOf]; omega
      · obtain rfl : j = n := by omega
        clear hc
        go_wp2
        go_ret
        exact ⟨rfl, rfl⟩
  · obtain rfl : n = 0 := by omega
    clear hc
    go_enter Try.func41, Try.ntmps41
    go_wp2
    go_loop [1, 5] (fun q i => q = .int .i64 k ∧ i = .int .i64 0) (fun _ _ => 0)
    case atStart => exact ⟨rfl, rfl⟩
    case round =>
      obtain ⟨rfl, rfl⟩ := hrel
      go_wp2
      go_ret
      exact ⟨ret_int (by simp), rfl⟩
/-- The same, where the row may be nil. -/
theorem markIntS_own (B n : Nat) (v : Value) (l : List Int) (k : Int) (w : World) (h : w.ownsRow B 3 1 v n (l.map (Value.int .i64))) (hl : l.length = n) (hn : n ≤ 4000000) (hk0 : 0 ≤ k) (hk1 : k ≤ 100000000) :
    Calls Try.prog 40 #[v, .int .i64 k] w fun e w' => e = .returned (.int .i64 (k + n)) ∧ w'.ownsRow B 3 1 v n ((marksI k n).map (Value.int .i64)) ∧ w.grownBy w' v.ownBlock := by
  by_cases hv : v = .slice none 0 0
  · have h0 : n = 0 := by
      rcases h.2 with ⟨_, h1⟩ | ⟨g, cap, cur, h1, _⟩
      · exact h1
      · rw [hv] at h1; simp at h1
    subst h0; subst hv
    have HO := Lib.hid (World.ownsRow_nil w B 3 1)
    clear h hl
    go_enter Try.func40, Try.ntmps40
    go_wp2
    go_loop [1, 5] (fun q i => q = .int .i64 k ∧ i = .int .i64 0) (fun _ _ => 0)
    case atStart => exact ⟨rfl, rfl⟩
    case round =>
      obtain ⟨rfl, rfl⟩ := hrel
      go_wp2
      go_ret
      exact ⟨ret_int (by simp), HO.out, World.grownBy.refl _ _⟩
  · obtain ⟨g, cap, rfl, _, _⟩ := Own.slice ⟨h, hv⟩
    exact (markIntS_any B g n cap l k w ⟨h, hv⟩ hl hn hk0 hk1).mono fun e w' ⟨h1, h2, h3⟩ => ⟨h1, h2.1, h3⟩
theorem rowI_marked {w : World} {B : Nat} {e : TypeId} {a : Option Addr} {n cap : Nat} (h : w.ownsRow B e 1 (.slice a n cap) n ((marksI 1 n).map (Value.int .i64))) (hn : n ≤ 4000000) : RowI w a n (marksI 1 n) :=
  rowI_owned h hn (wf_marksI 1 n (by omega) (by omega) hn)
end Go.Proofs.Ytpaeioabmmkheaa

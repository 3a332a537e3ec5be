/- The contracts of slices.Insert at versions (one element), and of the program's keyVersions.put. -/
import Derived.Test.YtncedcliklpapaaGreatRowOps
import Derived.Test.YtncedcliklpapaaGreatVerBase
import Derived.Test.YtncedcliklpapaaGreatKeyRead
import Derived.Test.YtncedcliklpapaaGreatKeyDel
import Derived.Lib.Overlaps
import Derived.Lib.AppendZerosOnto
import Derived.Shelf.Spec.SlicesInsertGrow
import Derived.Maps.AppendAt
import Derived.Deep.RegionLaw
import Derived.Deep.Cut
namespace Go.Proofs.YtncedcliklpapaaGreat
open Go.RowKit
set_option linter.unusedVariables false
/-- A row with an element more, over the same block or over a new one. -/
def InsR (B : Nat) (e0 : TypeId) (v : Value) (l : List Ver) (w : World) (e : Ending) (w' : World) : Prop :=
  ∃ v', e = .returned v' ∧ w'.ownsRow B e0 3 v' l.length (flatV l) ∧ w.grownBy w' v.ownBlock ∧ (v'.ownBlock = v.ownBlock ∨ ∀ b, v'.ownBlock = some b → w.heap.size ≤ b)
theorem run_overlapsV (w : World) (lb cb vb b c kA kB : Nat) (tA tB : TypeId) (hvb : vb ≠ b) (hsa : w.shape? vb = some (tA, kA)) (hsb : w.shape? b = some (tB, kB)) (hkB : kB ≠ 0) (hfa : w.frozen? ⟨vb, 0, none⟩ = false) (hfe : w.frozen? ⟨vb, kA, none⟩ = false) :
    (callFunc 70 #[.slice (some ⟨vb, 0, none⟩) 1 1, .slice (some ⟨b, (c + 1) * 3, none⟩) lb cb]).run Tryz.prog w = .ok (.value (.bool false)) w := by
  obtain ⟨i0, hi0, hz0, hzs, hzb⟩ := info_parts infoVerD
  have hz : ∀ w, (sizeOf 68).run Tryz.prog w = .ok 3 w := fun w => by simp [sizeOf, typeInfo, hi0, hzs]
  rw [run_callFunc_extern Tryz.func70 (by kernel_rfl) (by kernel_rfl) (by kernel_rfl) (e := Extern.SlicesOverlaps.overlaps #[35, 35] #[4]) (by kernel_rfl),
    Lib.run_overlaps_apart w 35 4 68 Tryz.underlying35 3 hz ⟨vb, 0, none⟩ ⟨b, (c + 1) * 3, none⟩ 1 1 lb cb hvb tA tB kA kB hsa hsb hkB hfa hfe]
  rfl
theorem splice_list (cur : Array Value) (o : Nat) (vs : List Value) : (splice cur o vs).toList = cur.toList.take o ++ (vs ++ cur.toList.drop (o + vs.length)) := by simp [splice]
/-- The cells behind an insertion in place. -/
theorem splice_ins (cur : Array Value) (l : List Ver) (n c : Nat) (x : Ver) (hl : l.length = n) (hc : c < n) (htk : cur.toList.take (n * 3) = flatV l) (hfit : (n + 1) * 3 ≤ cur.size) :
    (splice (splice cur ((c + 1) * 3) (flatV (l.drop c))) (c * 3) (celV x)).toList.take ((n + 1) * 3) = flatV (l.take c ++ x :: l.drop c) := by
  have hD : (flatV (l.drop c)).length = (n - c) * 3 := by rw [flatV_len, List.length_drop, hl]
  have hT : (flatV (l.take c)).length = c * 3 := by rw [flatV_len, List.length_take, hl, Nat.min_eq_left (by omega)]
  have e3 : cur.toList.take (c * 3) = flatV (l.take c) := by rw [← flatV_takeR, ← htk, List.take_take, Nat.min_eq_left (by omega)]
  have e4 : (cur.toList.take ((c + 1) * 3)).length = c * 3 + 3 := by rw [List.length_take, Array.length_toList]; omega
  have e5 : (splice cur ((c + 1) * 3) (flatV (l.drop c))).toList.take (c * 3) = flatV (l.take c) := by
    rw [splice_take _ _ _ _ (by omega) (by omega)]; exact e3
  have e6 : (splice cur ((c + 1) * 3) (flatV (l.drop c))).toList.drop (c * 3 + 3) = flatV (l.drop c) ++ cur.toList.drop ((c + 1) * 3 + (flatV (l.drop c)).length) := by
    rw [splice_list]; exact List.drop_left' e4
  rw [splice_list, e5, show (celV x).length = 3 from rfl, e6, flatV_append, show flatV (x :: l.drop c) = celV x ++ flatV (l.drop c) from rfl]
  have e7 : (flatV (l.take c) ++ (celV x ++ flatV (l.drop c))).length = (n + 1) * 3 := by
    rw [List.length_append, List.length_append, hT, hD, show (celV x).length = 3 from rfl]; omega
  rw [← e7, show flatV (l.take c) ++ (celV x ++ (flatV (l.drop c) ++ cur.toList.drop ((c + 1) * 3 + (flatV (l.drop c)).length))) = (flatV (l.take c) ++ (celV x ++ flatV (l.drop c))) ++ cur.toList.drop ((c + 1) * 3 + (flatV (l.drop c)).length) by simp]
  exact List.take_left
theorem shape_row {w : World} {g : Nat} {cur : Array Value} {T : TypeId} (h : w.heap[g]? = some (.cells cur T (0, 0))) : w.shape? g = some (T, cur.size) := by simp [World.shape?, h]
set_option maxRecDepth 100000 in
set_option maxHeartbeats 4000000 in
/-- Behind the last one. -/
theorem insertV_end (a : Option Addr) (n cap B : Nat) (l : List Ver) (x : Ver) (vb : Nat) (w : World) (ho : w.ownsRow B 68 3 (.slice a n cap) n (flatV l)) (hl : l.length = n) (hn : n ≤ 4000000) (hv : w.heap[vb]? = some (.cells #[.int .i64 x.key, .int .i64 x.by_, .int .i64 x.val] 68 (0, 0))) (hB : B ≤ w.heap.size) :
    Calls Tryz.prog 61 #[.slice a n cap, .int .i64 n, .slice (some ⟨vb, 0, none⟩) 1 1] w (InsR B 68 (.slice a n cap) (l ++ [x]) w) := by
  obtain ⟨i0, hi, hz0, hz1, hz2⟩ := info_parts infoVerD
  have hnews : ∀ j u, (celV x)[j]? = some u → w.cell? ((⟨vb, 0, none⟩ : Addr).add j) = some u := fun j u hu => by
    rw [show (⟨vb, 0, none⟩ : Addr).add j = ⟨vb, j, none⟩ by unfold Addr.add; split <;> simp_all]
    rw [cell_of_row w vb j _ _ (0, 0) hv, List.getElem?_toArray]; exact hu
  obtain ⟨v', w', hr, h2, h3, h4, h5⟩ := run_append_own_at (P := Tryz.prog) w B 35 35 68 i0 _ 3 24 Tryz.underlying35 hi hz0 hz1 hz2 rfl (by decide) (.slice a n cap) n (flatV l) ho ⟨vb, 0, none⟩ 1 1 (celV x) rfl hnews (celV_one x) (by unfold maxLen; omega) (by omega) hB
  have HR := Lib.hid hr
  have HF : Hid (InsR B 68 (.slice a n cap) (l ++ [x]) w (.returned v') w') := Lib.hid ⟨v', rfl, by rw [List.length_append, flatV_append, hl, show flatV [x] = celV x by simp [flatV]]; exact h2, h3, h5.imp id fun e b hb => by rw [e] at hb; cases hb; exact Nat.le_refl _⟩
  have hcap : n ≤ cap := by
    rcases ho.2 with ⟨h', h0⟩ | ⟨g, cap', cur, h', _, _, h6, _⟩
    · omega
    · simp only [Value.slice.injEq, true_and] at h'; omega
  have hcap2 : cap ≤ maxLen := by
    rcases ho.2 with ⟨h', h0⟩ | ⟨g, cap', cur, h', _, _, _, h6, _⟩
    · simp only [Value.slice.injEq] at h'; unfold maxLen; omega
    · simp only [Value.slice.injEq, true_and] at h'; rw [h'.2]; exact h6
  unfold maxLen at hcap2
  have hnil : a = none → n = 0 ∧ cap = 0 := fun e => by
    rcases ho.2 with ⟨h', h0⟩ | ⟨g, cap', cur, h', _⟩
    · simp only [Value.slice.injEq] at h'; exact ⟨h0, h'.2.2⟩
    · simp only [Value.slice.injEq] at h'; rw [e] at h'; cases h'.1
  clear hr h2 h3 h4 h5 hi hz0 hz1 hz2 hnews
  cases a with
  | none =>
    obtain ⟨rfl, rfl⟩ := hnil rfl
    clear hcap hcap2 hnil
    go_enter Tryz.func61, Tryz.ntmps61
    go_wp2_with (first | (at_builtin; refine Lib.wpList_append_run _ rfl _ _ _ _ rfl _ _ (by rfl) (by rfl) _ _ HR.out ?_))
    go_ret
    exact HF.out
  | some ad =>
    clear hnil
    by_cases hcn : cap = n
    · subst hcn
      go_enter Tryz.func61, Tryz.ntmps61
      go_wp2_with (first | (at_builtin; refine Lib.wpList_append_run _ rfl _ _ _ _ rfl _ _ (by rfl) (by rfl) _ _ HR.out ?_))
      go_ret
      exact HF.out
    · go_enter Tryz.func61, Tryz.ntmps61
      go_wp2_with (first | (at_builtin; refine Lib.wpList_append_run _ rfl _ _ _ _ rfl _ _ (by rfl) (by rfl) _ _ HR.out ?_))
      go_ret
      exact HF.out
set_option maxRecDepth 100000 in
set_option maxHeartbeats 4000000 in
/-- Ahead of another one; there is room. -/
theorem insertV_room (g n cap B c : Nat) (l : List Ver) (x : Ver) (vb : Nat) (w : World) (ho : w.ownsRow B 68 3 (.slice (some ⟨g, 0, none⟩) n cap) n (flatV l)) (hl : l.length = n) (hn : n ≤ 4000000) (hv : w.heap[vb]? = some (.cells #[.int .i64 x.key, .int .i64 x.by_, .int .i64 x.val] 68 (0, 0))) (hvb : vb ≠ g) (hc : c < n) (hroom : n + 1 ≤ cap) :
    Calls Tryz.prog 61 #[.slice (some ⟨g, 0, none⟩) n cap, .int .i64 c, .slice (some ⟨vb, 0, none⟩) 1 1] w (InsR B 68 (.slice (some ⟨g, 0, none⟩) n cap) (l.take c ++ x :: l.drop c) w) := by
  obtain ⟨cur, hgB, hgc, hncap, hcap, hcs, htk⟩ := owns_cur ho
  obtain ⟨i0, hi0, hz0, hzs, hzb⟩ := info_parts infoVerD
  have hsz : (Tryz.prog.info? 68).map (·.size) = some 3 := by rw [hi0]; simp [hzs]
  unfold maxLen at hcap
  have hcl : (flatV l).length = n * 3 := by rw [flatV_len, hl]
  have hget : ∀ j, j < n * 3 → cur[j]? = (flatV l)[j]? := fun j hj => by rw [← htk, List.getElem?_take, if_pos hj, Array.getElem?_toList]
  have hdl : (flatV (l.drop c)).length = (n - c) * 3 := by rw [flatV_len, List.length_drop, hl]
  have hov : ∀ lb cb, (callFunc 70 #[.slice (some ⟨vb, 0, none⟩) 1 1, .slice (some ⟨g, (c + 1) * 3, none⟩) lb cb]).run Tryz.prog w = .ok (.value (.bool false)) w := fun lb cb =>
    run_overlapsV w lb cb vb g c 3 cur.size _ _ hvb (shape_row hv) (shape_row hgc) (by omega) (frozen_of_row w vb 0 _ _ hv) (frozen_of_row w vb 3 _ _ hv)
  have hcp1 : ∀ ty dc sc, (Builtin.copy_ #[35, 35] ty #[.slice (some ⟨g, (c + 1) * 3, none⟩) (n - c) dc, .slice (some ⟨g, c * 3, none⟩) (n + 1 - c) sc]).run Tryz.prog w.drew = .ok (goInt (n - c : Nat)) (w.drew.setRow g (splice cur ((c + 1) * 3) (flatV (l.drop c)))) := fun ty dc sc =>
    run_copy_rowS w.drew _ _ ty 68 3 g ((c + 1) * 3) (n - c) dc ⟨g, c * 3, none⟩ (n + 1 - c) sc cur _ (flatV (l.drop c)) Tryz.underlying35 hsz hgc (n - c) (by simp only [Nat.min_def]; split <;> omega) hdl
      (fun j v hj => by
        have hj2 : j < (n - c) * 3 := by rw [← hdl]; exact (List.getElem?_eq_some_iff.1 hj).1
        rw [show (⟨g, c * 3, none⟩ : Addr).add j = ⟨g, c * 3 + j, none⟩ by unfold Addr.add; split <;> simp_all]
        rw [show w.drew.cell? ⟨g, c * 3 + j, none⟩ = w.cell? ⟨g, c * 3 + j, none⟩ from rfl, cell_of_row w g (c * 3 + j) cur _ (0, 0) hgc, hget _ (by omega)]
        rwa [← flatV_dropR, List.getElem?_drop] at hj)
      (by rw [hdl]; omega) (flatV_one _)
  obtain ⟨ROW, hROW⟩ : ∃ ROW, ROW = splice cur ((c + 1) * 3) (flatV (l.drop c)) := ⟨_, rfl⟩
  have hRs : ROW.size = cap * 3 := by rw [hROW, splice_size _ _ _ (by rw [hdl]; omega), hcs]
  have hg1 : (w.drew.setRow g ROW).heap[g]? = some (.cells ROW 68 (0, 0)) := setRow_heap w.drew g cur ROW _ _ hgc
  have hcp2 : ∀ ty dc, (Builtin.copy_ #[35, 35] ty #[.slice (some ⟨g, c * 3, none⟩) (n + 1 - c) dc, .slice (some ⟨vb, 0, none⟩) 1 1]).run Tryz.prog (w.drew.setRow g ROW) = .ok (goInt (1 : Nat)) ((w.drew.setRow g ROW).setRow g (splice ROW (c * 3) (celV x))) := fun ty dc =>
    run_copy_rowS (w.drew.setRow g ROW) _ _ ty 68 3 g (c * 3) (n + 1 - c) dc ⟨vb, 0, none⟩ 1 1 ROW _ (celV x) Tryz.underlying35 hsz hg1 1 (by simp only [Nat.min_def]; split <;> omega) rfl
      (fun j v hj => by
        rw [show (⟨vb, 0, none⟩ : Addr).add j = ⟨vb, j, none⟩ by unfold Addr.add; split <;> simp_all]
        rw [cell_of_row (w.drew.setRow g ROW) vb j _ _ (0, 0) ((setRow_other w.drew g vb ROW hvb).trans hv), List.getElem?_toArray]; exact hj)
      (by rw [hRs]; show c * 3 + 3 ≤ cap * 3; omega) (celV_one x)
  have hfin : InsR B 68 (.slice (some ⟨g, 0, none⟩) n cap) (l.take c ++ x :: l.drop c) w (.returned (.slice (some ⟨g, 0, none⟩) (n + 1) cap)) ((w.drew.setRow g ROW).setRow g (splice ROW (c * 3) (celV x))) := by
    have hll : (l.take c ++ x :: l.drop c).length = n + 1 := by simp; omega
    refine ⟨_, rfl, ⟨by rw [flatV_len], .inr ⟨g, cap, _, by rw [hll], hgB, setRow_heap _ g ROW _ _ _ hg1, by omega, by unfold maxLen; omega, ?_, ?_⟩⟩, ?_, .inl rfl⟩
    · rw [splice_size _ _ _ (by rw [hRs]; show c * 3 + 3 ≤ cap * 3; omega), hRs]
    · rw [hll, hROW]; exact splice_ins cur l n c x hl hc htk (by omega)
    · exact (show w.grownBy w.drew (some g) from ⟨rfl, rfl, rfl, Nat.le_refl _, fun _ _ _ => rfl⟩).trans ((setRow_grown _ g ROW).trans (setRow_grown _ g _))
  have HFIN := Lib.hid hfin
  obtain ⟨R2, hR2⟩ : ∃ R2, R2 = splice ROW (c * 3) (celV x) := ⟨_, rfl⟩
  rw [← hROW] at hcp1
  rw [← hR2] at hcp2 HFIN
  have hw1 : IntKind.i64.wrap ((c : Int) + 1) = (c : Int) + 1 := by rw [IntKind.wrap_i64]; omega
  have hw2 : IntKind.i64.wrap ((n : Int) + 1) = (n : Int) + 1 := by rw [IntKind.wrap_i64]; omega
  have hz2 : ((c : Int) == (n : Int)) = false := by rw [beq_eq_false_iff_ne]; omega
  have hb1 : (0 : Int) ≤ (c : Int) + 1 := by omega
  have hin : c ≤ n := by omega
  have htn : ((c : Int) + 1).toNat = c + 1 := by omega
  have hb2 : ¬ (cap = c + 1) := by omega
  have hb3 : (c : Int) ≤ (n : Int) + 1 := by omega
  have hb4 : ¬ (cap = c) := by omega
  have hb5 : ¬ ((cap : Int) < (n : Int) + 1) := by omega
  clear hROW hR2 hfin hRs hg1 hdl hget hcl hsz hi0 hz0 hzs hzb htk hcs hgc hv
  go_enter Tryz.func61, Tryz.ntmps61
  have mixed : Tryz.prog.follows .mixedOrders = true := by kernel_rfl
  go_wp2_with (simp only [hov])
  go_region_law_o (refine step_copy_runI rfl _ _ 35 35 rfl _ _ (by simp [Act.eval, Act.put]) (by simp [Act.eval, Act.put]) (hcp1 _ _ _) ?_)
  go_wp2_with (at_builtin; refine wpList_copy_runI _ rfl _ _ 35 35 rfl _ _ (by rfl) (by rfl) (hcp2 _ _) ?_)
  go_ret
  exact HFIN.out
/-- The cells behind an insertion into a new row. -/
theorem splice_new (ROW : Array Value) (l : List Ver) (n c : Nat) (x : Ver) (hl : l.length = n) (hc : c < n) (h0 : ROW.toList.take (c * 3) = flatV (l.take c)) (hfit : (n + 1) * 3 ≤ ROW.size) :
    (splice (splice ROW (c * 3) (celV x)) ((c + 1) * 3) (flatV (l.drop c))).toList.take ((n + 1) * 3) = flatV (l.take c ++ x :: l.drop c) := by
  have hD : (flatV (l.drop c)).length = (n - c) * 3 := by rw [flatV_len, List.length_drop, hl]
  have hT : (flatV (l.take c)).length = c * 3 := by rw [flatV_len, List.length_take, hl, Nat.min_eq_left (by omega)]
  have e5 : (splice ROW (c * 3) (celV x)).toList.take ((c + 1) * 3) = flatV (l.take c) ++ celV x := by
    rw [splice_list, h0, ← List.append_assoc]
    exact List.take_left' (by rw [List.length_append, hT]; show c * 3 + 3 = (c + 1) * 3; omega)
  rw [splice_list, e5, flatV_append, show flatV (x :: l.drop c) = celV x ++ flatV (l.drop c) from rfl]
  have e7 : (flatV (l.take c) ++ (celV x ++ flatV (l.drop c))).length = (n + 1) * 3 := by
    rw [List.length_append, List.length_append, hT, hD, show (celV x).length = 3 from rfl]; omega
  rw [List.append_assoc]
  rw [show flatV (l.take c) ++ (celV x ++ (flatV (l.drop c) ++ (splice ROW (c * 3) (celV x)).toList.drop ((c + 1) * 3 + (flatV (l.drop c)).length))) = (flatV (l.take c) ++ (celV x ++ flatV (l.drop c))) ++ (splice ROW (c * 3) (celV x)).toList.drop ((c + 1) * 3 + (flatV (l.drop c)).length) by simp]
  exact List.take_left' e7
set_option maxRecDepth 100000 in
set_option maxHeartbeats 4000000 in
/-- Ahead of another one; there is no room. -/
theorem insertV_grow (g n cap B c : Nat) (l : List Ver) (x : Ver) (vb : Nat) (w : World) (ho : w.ownsRow B 68 3 (.slice (some ⟨g, 0, none⟩) n cap) n (flatV l)) (hl : l.length = n) (hn : n ≤ 4000000) (hv : w.heap[vb]? = some (.cells #[.int .i64 x.key, .int .i64 x.by_, .int .i64 x.val] 68 (0, 0))) (hc : c < n) (hroom : cap < n + 1) (hB : B ≤ w.heap.size) :
    Calls Tryz.prog 61 #[.slice (some ⟨g, 0, none⟩) n cap, .int .i64 c, .slice (some ⟨vb, 0, none⟩) 1 1] w (InsR B 68 (.slice (some ⟨g, 0, none⟩) n cap) (l.take c ++ x :: l.drop c) w) := by
  obtain ⟨cur, hgB, hgc, hncap, hcap, hcs, htk⟩ := owns_cur ho
  obtain ⟨i0, hi0, hz0, hzs, hzb⟩ := info_parts infoVerD
  have hsz : (Tryz.prog.info? 68).map (·.size) = some 3 := by rw [hi0]; simp [hzs]
  unfold maxLen at hcap
  obtain rfl : cap = n := by omega
  have hcl : (flatV l).length = cap * 3 := by rw [flatV_len, hl]
  have hget : ∀ j, j < cap * 3 → cur[j]? = (flatV l)[j]? := fun j hj => by rw [← htk, List.getElem?_take, if_pos hj, Array.getElem?_toList]
  have hdl : (flatV (l.drop c)).length = (cap - c) * 3 := by rw [flatV_len, List.length_drop, hl]
  have htl : (flatV (l.take c)).length = c * 3 := by rw [flatV_len, List.length_take, hl, Nat.min_eq_left (by omega)]
  have hgw : g < w.heap.size := (Array.getElem?_eq_some_iff.1 hgc).1
  have hvw : vb < w.heap.size := (Array.getElem?_eq_some_iff.1 hv).1
  have hik : c + (cap + 1 - c) = cap + 1 := by omega
  have hold : (Builtin.firstCells i0.size c (.slice (some ⟨g, 0, none⟩) c cap)).run Tryz.prog w.drew = .ok (flatV (l.take c)).toArray w.drew := by
    rw [hzs]
    exact run_firstCells_some w.drew 3 c ⟨g, 0, none⟩ c cap (flatV (l.take c)) htl (fun j v hj => by
      have hj2 : j < c * 3 := by rw [← htl]; exact (List.getElem?_eq_some_iff.1 hj).1
      rw [show (⟨g, 0, none⟩ : Addr).add j = ⟨g, j, none⟩ by unfold Addr.add; split <;> simp_all]
      rw [show w.drew.cell? ⟨g, j, none⟩ = w.cell? ⟨g, j, none⟩ from rfl, cell_of_row w g j cur _ (0, 0) hgc, hget _ (by omega)]
      rw [← flatV_takeR, List.getElem?_take, if_pos hj2] at hj
      exact hj)
  have hrz : ∀ ty, (Builtin.append_ #[35, 3] ty #[.slice (some ⟨g, 0, none⟩) c cap, .int .i64 ((cap : Int) + 1 - (c : Int))]).run Tryz.prog w =
      .ok (.slice (some ⟨w.heap.size, 0, none⟩) (cap + 1) (grownCap w (cap + 1) cap 68)) (w.drew.alloc (.cells ((flatV (l.take c)).toArray ++ Builtin.zeroCells (Value.agg #[.int .i64 0, .int .i64 0, .int .i64 0]).cells (cap + 1 - c) ++ Builtin.zeroCells (Value.agg #[.int .i64 0, .int .i64 0, .int .i64 0]).cells (grownCap w (cap + 1) cap 68 - (cap + 1))) 68)) := fun ty => by
    have h := Lib.run_append_grow_zeros w 35 3 ty 68 i0 _ .i64 .i64 Tryz.underlying35 Tryz.underlying3 hi0 hz0 (some ⟨g, 0, none⟩) c cap (flatV (l.take c)) hold (cap + 1 - c) (by omega) (by omega) (by omega) (by omega) (by rw [hzb]; omega) (by rw [hzb, hik]; exact growslice_fits (by omega) (by omega))
    rw [hik] at h
    rw [show (cap : Int) + 1 - (c : Int) = ((cap + 1 - c : Nat) : Int) by omega]
    exact h
  obtain ⟨G, hG⟩ : ∃ G, G = grownCap w (cap + 1) cap 68 := ⟨_, rfl⟩
  have hGn : cap + 1 ≤ G := by rw [hG]; exact grownCap_ge w _ _ _
  have hGm : G ≤ maxLen := by rw [hG]; exact grownCap_le_maxLen w (cap + 1) cap 68 (by unfold maxLen; omega)
  obtain ⟨ROW, hROW⟩ : ∃ ROW : Array Value, ROW = (flatV (l.take c)).toArray ++ Builtin.zeroCells (Value.agg #[.int .i64 0, .int .i64 0, .int .i64 0]).cells (cap + 1 - c) ++ Builtin.zeroCells (Value.agg #[.int .i64 0, .int .i64 0, .int .i64 0]).cells (G - (cap + 1)) := ⟨_, rfl⟩
  rw [← hG] at hrz
  rw [← hROW] at hrz
  have hz3 : (Value.agg #[.int .i64 0, .int .i64 0, .int .i64 0]).cells.size = 3 := rfl
  have hRs : ROW.size = G * 3 := by
    rw [hROW, Array.size_append, Array.size_append, size_zeroCells, size_zeroCells, List.size_toArray, htl, hz3]; omega
  have hRt : ROW.toList.take (c * 3) = flatV (l.take c) := by
    rw [hROW, Array.toList_append, Array.toList_append, List.append_assoc]
    exact List.take_left' htl
  obtain ⟨N, hN⟩ : ∃ N, N = w.heap.size := ⟨_, rfl⟩
  have hnew : (w.alloc (.cells ROW 68)).heap[N]? = some (.cells ROW 68 (0, 0)) := by rw [hN]; exact heap_alloc_new w _
  have holdg : (w.alloc (.cells ROW 68)).heap[g]? = some (.cells cur 68 (0, 0)) := (Below.heap_alloc w _ g hgw).trans hgc
  have holdv : (w.alloc (.cells ROW 68)).heap[vb]? = some (.cells #[.int .i64 x.key, .int .i64 x.by_, .int .i64 x.val] 68 (0, 0)) := (Below.heap_alloc w _ vb hvw).trans hv
  have hcpA : ∀ W : World, W.heap = (w.alloc (.cells ROW 68)).heap → ∀ ty dc, (Builtin.copy_ #[35, 35] ty #[.slice (some ⟨N, c * 3, none⟩) (cap + 1 - c) dc, .slice (some ⟨vb, 0, none⟩) 1 1]).run Tryz.prog W = .ok (goInt (1 : Nat)) (W.setRow N (splice ROW (c * 3) (celV x))) := fun W hW ty dc =>
    run_copy_rowS W _ _ ty 68 3 N (c * 3) (cap + 1 - c) dc ⟨vb, 0, none⟩ 1 1 ROW _ (celV x) Tryz.underlying35 hsz (by rw [hW]; exact hnew) 1 (by simp only [Nat.min_def]; split <;> omega) rfl
      (fun j v hj => by
        rw [show (⟨vb, 0, none⟩ : Addr).add j = ⟨vb, j, none⟩ by unfold Addr.add; split <;> simp_all]
        rw [cell_of_row W vb j _ _ (0, 0) (by rw [hW]; exact holdv), List.getElem?_toArray]; exact hj)
      (by rw [hRs]; show c * 3 + 3 ≤ G * 3; omega) (celV_one x)
  obtain ⟨R1, hR1⟩ : ∃ R1, R1 = splice ROW (c * 3) (celV x) := ⟨_, rfl⟩
  have hR1s : R1.size = G * 3 := by rw [hR1, splice_size _ _ _ (by rw [hRs]; show c * 3 + 3 ≤ G * 3; omega), hRs]
  have hgN : g ≠ N := by omega
  have hcpB : ∀ W : World, W.heap = ((w.alloc (.cells ROW 68)).setRow N R1).heap → ∀ ty dc sc, (Builtin.copy_ #[35, 35] ty #[.slice (some ⟨N, (c + 1) * 3, none⟩) (cap - c) dc, .slice (some ⟨g, c * 3, none⟩) (cap - c) sc]).run Tryz.prog W = .ok (goInt (cap - c : Nat)) (W.setRow N (splice R1 ((c + 1) * 3) (flatV (l.drop c)))) := fun W hW ty dc sc =>
    run_copy_rowS W _ _ ty 68 3 N ((c + 1) * 3) (cap - c) dc ⟨g, c * 3, none⟩ (cap - c) sc R1 _ (flatV (l.drop c)) Tryz.underlying35 hsz (by rw [hW]; exact setRow_heap _ N ROW R1 _ _ hnew) (cap - c) (by simp only [Nat.min_def]; split <;> omega) hdl
      (fun j v hj => by
        have hj2 : j < (cap - c) * 3 := by rw [← hdl]; exact (List.getElem?_eq_some_iff.1 hj).1
        rw [show (⟨g, c * 3, none⟩ : Addr).add j = ⟨g, c * 3 + j, none⟩ by unfold Addr.add; split <;> simp_all]
        rw [cell_of_row W g (c * 3 + j) cur _ (0, 0) (by rw [hW]; exact (setRow_other _ N g R1 hgN).trans holdg), hget _ (by omega)]
        rwa [← flatV_dropR, List.getElem?_drop] at hj)
      (by rw [hdl, hR1s]; omega) (flatV_one _)
  obtain ⟨R2, hR2⟩ : ∃ R2, R2 = splice R1 ((c + 1) * 3) (flatV (l.drop c)) := ⟨_, rfl⟩
  have hR2s : R2.size = G * 3 := by rw [hR2, splice_size _ _ _ (by rw [hdl, hR1s]; omega), hR1s]
  have hll : (l.take c ++ x :: l.drop c).length = cap + 1 := by simp; omega
  have HFIN : Hid (∀ W : World, W.heap = (((w.alloc (.cells ROW 68)).setRow N R1).setRow N R2).heap → W.os = w.os → W.tape = w.tape → W.output = w.output → InsR B 68 (.slice (some ⟨g, 0, none⟩) cap cap) (l.take c ++ x :: l.drop c) w (.returned (.slice (some ⟨N, 0, none⟩) (cap + 1) G)) W) := Lib.hid fun W hW h1 h2 h3 => by
    refine ⟨_, rfl, ⟨by rw [flatV_len], .inr ⟨N, G, R2, by rw [hll], by omega, by rw [hW]; exact setRow_heap _ N R1 R2 _ _ (setRow_heap _ N ROW R1 _ _ hnew), by omega, hGm, hR2s, ?_⟩⟩, ⟨h1, h2, h3, ?_, fun k hk _ => ?_⟩, .inr fun b hb => ?_⟩
    · rw [hll, hR2, hR1]; exact splice_new ROW l cap c x hl hc hRt (by rw [hRs]; omega)
    · rw [hW]; simp
    · rw [hW]
      have hkN : k ≠ N := by omega
      exact (setRow_other _ N k R2 hkN).trans ((setRow_other _ N k R1 hkN).trans (Below.heap_alloc w _ k hk))
    · simp only [Value.ownBlock, Option.some.injEq] at hb; omega
  rw [← hR1] at hcpA
  rw [← hR2] at hcpB
  have hw1 : IntKind.i64.wrap ((c : Int) + 1) = (c : Int) + 1 := by rw [IntKind.wrap_i64]; omega
  have hw2 : IntKind.i64.wrap ((cap : Int) + 1) = (cap : Int) + 1 := by rw [IntKind.wrap_i64]; omega
  have hw3 : IntKind.i64.wrap ((cap : Int) + 1 - (c : Int)) = (cap : Int) + 1 - (c : Int) := by rw [IntKind.wrap_i64]; omega
  have hz2 : ((c : Int) == (cap : Int)) = false := by rw [beq_eq_false_iff_ne]; omega
  have hb1 : (0 : Int) ≤ (c : Int) + 1 := by omega
  have hin : c ≤ cap := by omega
  have htn : ((c : Int) + 1).toNat = c + 1 := by omega
  have hb3 : (c : Int) ≤ (cap : Int) := by omega
  have hGi : ¬ (G = c) := by omega
  have hGim : ¬ (G = c + 1) := by omega
  have hci : ¬ (cap = c) := by omega
  have mixed : Tryz.prog.follows .mixedOrders = true := by kernel_rfl
  rw [← hN] at hrz
  clear hROW hR1 hR2 hRs hR1s hR2s hRt hnew holdg holdv hdl htl hget hcl hsz hi0 hz0 hzs hzb htk hcs hgc hv hold hG hN hik hll hz3 hGm
  go_enter Tryz.func61, Tryz.ntmps61
  have hcpA' := fun ty dc => hcpA (w.alloc (.cells ROW 68)).drew rfl ty dc
  have hcpB' := fun ty dc sc => hcpB ((w.alloc (.cells ROW 68)).drew.setRow N R1).drew rfl ty dc sc
  clear hcpA hcpB
  go_wp2_with (first
    | (at_builtin; refine Lib.wpList_append_run _ rfl _ _ _ _ rfl _ _ (by rfl) (by rfl) _ _ (hrz _) ?_))
  go_region_law_o (refine step_copy_runI rfl _ _ 35 35 rfl _ _ (by simp [Act.eval, Act.put]) (by simp [Act.eval, Act.put]) (hcpB' _ _ _) ?_)
  go_wp2
  go_ret
  exact HFIN.out _ rfl rfl rfl rfl
/-- At any place. -/
theorem insertV_any (a : Option Addr) (n cap B c : Nat) (l : List Ver) (x : Ver) (vb : Nat) (w : World) (ho : w.ownsRow B 68 3 (.slice a n cap) n (flatV l)) (hl : l.length = n) (hn : n ≤ 4000000) (hv : w.heap[vb]? = some (.cells #[.int .i64 x.key, .int .i64 x.by_, .int .i64 x.val] 68 (0, 0))) (hne : (Value.slice a n cap).ownBlock ≠ some vb) (hc : c ≤ n) (hB : B ≤ w.heap.size) :
    Calls Tryz.prog 61 #[.slice a n cap, .int .i64 c, .slice (some ⟨vb, 0, none⟩) 1 1] w (InsR B 68 (.slice a n cap) (l.take c ++ x :: l.drop c) w) := by
  by_cases hcn : c = n
  · subst hcn
    rw [show l.take c ++ x :: l.drop c = l ++ [x] by rw [List.take_of_length_le (by omega), List.drop_of_length_le (by omega)]]
    exact insertV_end a c cap B l x vb w ho hl hn hv hB
  · obtain ⟨g, hg⟩ : ∃ g, a = some ⟨g, 0, none⟩ := by
      rcases ho.2 with ⟨h', h0⟩ | ⟨g, cap', cur, h', _⟩
      · omega
      · simp only [Value.slice.injEq] at h'; exact ⟨g, h'.1⟩
    subst hg
    by_cases hr : n + 1 ≤ cap
    · exact insertV_room g n cap B c l x vb w ho hl hn hv (fun e => hne (by simp [Value.ownBlock, e])) (by omega) hr
    · exact insertV_grow g n cap B c l x vb w ho hl hn hv (by omega) (by omega) hB
end Go.Proofs.YtncedcliklpapaaGreat

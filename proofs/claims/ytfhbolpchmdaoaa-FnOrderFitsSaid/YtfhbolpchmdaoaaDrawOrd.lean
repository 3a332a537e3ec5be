/- The contracts of the draws of stage 8: DrawConflict, DrawLevelsOf, DrawLevelOrder, l20Order, DrawOrderFits, DrawRunOrder. -/
import Derived.Test.YtfhbolpchmdaoaaDrawAc
import Derived.Test.YtfhbolpchmdaoaaSpecC

import Derived.Test.YtfhbolpchmdaoaaRegJ
namespace Go.Proofs.Ytfhbolpchmdaoaa
open Go.RowKit
set_option linter.unusedVariables false
set_option linter.unusedSimpArgs false
theorem rowB_belowO {w w' : World} {a : Option Addr} {len : Nat} {z : List Int} (h : RowB w a len z) (hb : Below w.heap.size w w') : RowB w' a len z := by
  obtain ⟨h1, h2, h3, h4⟩ := h
  refine ⟨h1, h2, fun hl => ?_, h4⟩
  obtain ⟨b, off, he, hc⟩ := h3 hl
  refine ⟨b, off, he, fun i hi => ?_⟩
  have hlt : b < w.heap.size := World.block_lt_of_cell? w ⟨b, off + i, none⟩ (hc i hi)
  rw [hb.cell (p := ⟨b, off + i, none⟩) hlt]
  exact hc i hi
/-- Two drawn actions, by value. -/
def ActsD2 (w : World) (e : Ending) (w' : World) : Prop :=
  ∃ p q r t p2 q2 r2 t2 : Int, e = .returned (.tuple #[.agg #[.int .i64 p, .int .i64 q, .int .i64 r, .int .i64 t], .agg #[.int .i64 p2, .int .i64 q2, .int .i64 r2, .int .i64 t2]]) ∧ WfA ⟨p, q, r, t⟩ ∧ WfA ⟨p2, q2, r2, t2⟩ ∧ Below w.heap.size w w'
set_option maxHeartbeats 2000000 in
theorem drawConflict_any (a : Option Addr) (len cap : Nat) (z : List Int) (w : World) (h : RowB w a len z) (hlc : len ≤ cap) :
    Calls Try.prog 14 #[.slice a len cap] w (ActsD2 w) := by
  have hz0 := actAt_new w 24 0 0 0 0
  have hz1 := (hz0.grown (World.grownBy_alloc _ (.cells #[.int .i64 0, .int .i64 0, .int .i64 0, .int .i64 0] 24) none) (by simp))
  have hy1 := actAt_new (w.alloc (.cells #[.int .i64 0, .int .i64 0, .int .i64 0, .int .i64 0] 24)) 24 0 0 0 0
  have hb0 := ((Below.refl w.heap.size w).alloc (Nat.le_refl _) (.cells #[.int .i64 0, .int .i64 0, .int .i64 0, .int .i64 0] 24)).alloc (by simp) (.cells #[.int .i64 0, .int .i64 0, .int .i64 0, .int .i64 0] 24)
  have hre := rowB_belowO h hb0
  have HR := Lib.hid hre
  have HB0 := Lib.hid hb0
  have hsz : (w.alloc (.cells #[.int .i64 0, .int .i64 0, .int .i64 0, .int .i64 0] 24)).heap.size = w.heap.size + 1 := by simp
  rw [hsz] at hy1
  clear h hb0 hz0 hre hsz
  go_enter Try.func14, Try.ntmps14
  go_wp2_with fail
  refine (open_any a len cap z _ HR.out hlc).mono ?_; rintro e w1 ⟨R, rfl, hR, hr1, hb1, hRw⟩
  have hz2 := hz1.grown (Below.grownBy hb1 none) (by simp)
  have hy2 := hy1.grown (Below.grownBy hb1 none) (by simp)
  have hR1 : w.heap.size + 1 < R := by simp at hR; omega
  have HB1 := Lib.hid (HB0.out.trans (hb1.mono (by simp; omega)))
  clear hz1 hy1 hb1 hR
  go_wp2_with fail
  refine (l20Action_any R 0 14 _ hr1 (by omega) (by omega) (by omega)).mono ?_; rintro e w2 ⟨p, q, r, t, rfl, hp, hq, hrr, ht, hr2, hu2⟩
  have hz3 := hz2.grown hu2 (by simp; omega)
  have hy3 := hy2.grown hu2 (by simp; omega)
  have HB2 := Lib.hid (hu2.below HB1.out HB1.out.size (by omega))
  have HP := Lib.hid (wfA_of hp hq hrr ht)
  clear hr1 hu2 hz2 hy2 hp hq hrr ht
  go_wp2_with fail
  refine (l20Action_any R _ 14 _ hr2 (by omega) (by omega) (by omega)).mono ?_; rintro e w3 ⟨p2, q2, r2, t2, rfl, hp, hq, hrr, ht, hr3, hu3⟩
  obtain ⟨⟨z1, z2, z3, z4⟩, z5, z6, z7, z8⟩ := hz3.grown hu3 (by simp; omega)
  obtain ⟨⟨y1, y2, y3, y4⟩, y5, y6, y7, y8⟩ := hy3.grown hu3 (by simp; omega)
  have HB3 := Lib.hid (hu3.below HB2.out HB2.out.size (by omega))
  have HP2 := Lib.hid (wfA_of hp hq hrr ht)
  clear hr2 hr3 hu3 hz3 hy3 hp hq hrr ht
  go_wp2_with fail
  refine bodyPost_ret (v := .tuple #[.agg #[.int .i64 p, .int .i64 q, .int .i64 r, .int .i64 t], .agg #[.int .i64 p2, .int .i64 q2, .int .i64 r2, .int .i64 t2]]) ?_ rfl ⟨p, q, r, t, p2, q2, r2, t2, rfl, HP.out, HP2.out, (((((((HB3.out.setCell (p := ⟨w.heap.size, 0, none⟩) (Nat.le_refl _) _).setCell (p := ⟨w.heap.size, 1, none⟩) (Nat.le_refl _) _).setCell (p := ⟨w.heap.size, 2, none⟩) (Nat.le_refl _) _).setCell (p := ⟨w.heap.size, 3, none⟩) (Nat.le_refl _) _).setCell (p := ⟨w.heap.size + 1, 0, none⟩) (Nat.le_succ _) _).setCell (p := ⟨w.heap.size + 1, 1, none⟩) (Nat.le_succ _) _).setCell (p := ⟨w.heap.size + 1, 2, none⟩) (Nat.le_succ _) _).setCell (p := ⟨w.heap.size + 1, 3, none⟩) (Nat.le_succ _) _⟩
  simp [results, Try.results14, go_sem, z1, z2, z3, z4, y1, y2, y3, y4]
/-- Drawn actions. -/
def AsO (w : World) (e : Ending) (w' : World) : Prop :=
  ∃ (g c : Nat) (l : List Acn), e = .returned (.slice (some ⟨g, 0, none⟩) l.length c) ∧ RowA w' (some ⟨g, 0, none⟩) l.length l ∧ l.length ≤ c ∧ l.length ≤ 20 ∧ Below w.heap.size w w'
theorem drawLevelsOf_any (a : Option Addr) (len cap : Nat) (z : List Int) (w : World) (h : RowB w a len z) (hlc : len ≤ cap) :
    Calls Try.prog 22 #[.slice a len cap] w (AsO w) := by
  go_enter Try.func22, Try.ntmps22
  go_wp2_with fail
  refine (open_any a len cap z _ h hlc).mono ?_; rintro e w1 ⟨R, rfl, hR, hr1, hb1, hRw⟩
  clear h
  go_wp2_with fail
  refine (l20Actions_any R 0 9 _ hr1 (by omega) (by omega) (by omega)).mono ?_; rintro e w2 ⟨v, l, rfl, ho, hw, hlen, hr2, hu2⟩
  obtain ⟨g, c, rfl, -, -, hr, hlc⟩ := rowA_of_own ho (by omega) hw
  have hb2 := hu2.below hb1 hb1.size hR
  clear hr1 hr2 hu2 ho
  go_wp2
  go_ret
  exact ⟨g, c, l, rfl, hr, hlc, hlen, hb2⟩
theorem drawLevelOrder_any (a : Option Addr) (len cap : Nat) (z : List Int) (w : World) (h : RowB w a len z) (hlc : len ≤ cap) :
    Calls Try.prog 36 #[.slice a len cap] w (AsO w) := by
  go_enter Try.func36, Try.ntmps36
  go_wp2_with fail
  refine (open_any a len cap z _ h hlc).mono ?_; rintro e w1 ⟨R, rfl, hR, hr1, hb1, hRw⟩
  clear h
  go_wp2_with fail
  refine (l20Actions_any R 0 9 _ hr1 (by omega) (by omega) (by omega)).mono ?_; rintro e w2 ⟨v, l, rfl, ho, hw, hlen, hr2, hu2⟩
  obtain ⟨g, c, rfl, -, -, hr, hlc⟩ := rowA_of_own ho (by omega) hw
  have hb2 := hu2.below hb1 hb1.size hR
  clear hr1 hr2 hu2 ho
  go_wp2
  go_ret
  exact ⟨g, c, l, rfl, hr, hlc, hlen, hb2⟩
/-- An order under way: X, of n numbers below n, of the call's own; the actions stay. -/
def OrdD (w wr : World) (R P gA n : Nat) (L : List Acn) (g c : Nat) (X : List Int) : Prop :=
  wr.ownsRow w.heap.size 3 1 (.slice (some ⟨g, 0, none⟩) n c) n (X.map (Value.int .i64)) ∧ X.length = n ∧ (∀ x ∈ X, 0 ≤ x ∧ x < n) ∧ RowA wr (some ⟨gA, 0, none⟩) n L ∧ Rd wr R P ∧ Upd R w wr
theorem OrdD.turn {w wr w' : World} {R P P' gA n g c : Nat} {L : List Acn} {X : List Int} (h : OrdD w wr R P gA n L g c X) (hr : Rd w' R P') (hu : Upd R wr w') (hR : R < w.heap.size) (hA : gA ≠ R) : OrdD w w' R P' gA n L g c X :=
  ⟨owns_grown h.1 hu (fun k hk => by simp at hk; omega), h.2.1, h.2.2.1, h.2.2.2.1.grown hu (by simp; exact hA), hr, h.2.2.2.2.2.trans hu⟩
theorem OrdD.below {w wr w' : World} {R P gA n g c : Nat} {L : List Acn} {X : List Int} (h : OrdD w wr R P gA n L g c X) (hb : Below wr.heap.size wr w') : OrdD w w' R P gA n L g c X :=
  ⟨owns_below h.1 hb, h.2.1, h.2.2.1, h.2.2.2.1.below hb, h.2.2.2.2.1.below hb, h.2.2.2.2.2.trans (Upd.ofBelow R hb)⟩
theorem OrdD.mono {w wr : World} {R P P' gA n g c : Nat} {L : List Acn} {X : List Int} (h : OrdD w wr R P gA n L g c X) (hP : P ≤ P') : OrdD w wr R P' gA n L g c X :=
  ⟨h.1, h.2.1, h.2.2.1, h.2.2.2.1, h.2.2.2.2.1.mono hP, h.2.2.2.2.2⟩
theorem OrdD.cell {w wr : World} {R P gA n g c : Nat} {L : List Acn} {X : List Int} (h : OrdD w wr R P gA n L g c X) (i : Nat) (hi : i < n) : wr.cell? ⟨g, i, none⟩ = some (.int .i64 (X.getD i 0)) := by
  rw [h.1.cellAt i (by omega), List.getElem?_map, List.getD_eq_getElem?_getD, List.getElem?_eq_getElem (by rw [h.2.1]; exact hi)]; rfl
theorem OrdD.bd {w wr : World} {R P gA n g c : Nat} {L : List Acn} {X : List Int} (h : OrdD w wr R P gA n L g c X) (i : Nat) (hi : i < n) : ∃ Y : Nat, X.getD i 0 = (Y : Int) ∧ Y < n := by
  have := h.2.2.1 _ (getD_memI X i (by rw [h.2.1]; exact hi))
  exact ⟨(X.getD i 0).toNat, by omega, by omega⟩
theorem OrdD.set {w wr : World} {R P gA n g c : Nat} {L : List Acn} {X : List Int} (h : OrdD w wr R P gA n L g c X) (i : Nat) (hi : i < n) (v : Int) (hv : 0 ≤ v ∧ v < n) (hA : gA < w.heap.size) (hR : R < w.heap.size) :
    OrdD w (wr.setCell ⟨g, i, none⟩ (.int .i64 v)) R P gA n L g c (X.set i v) := by
  obtain ⟨h1, h2, h3, h4, h5, h6⟩ := h
  have hg0 : w.heap.size ≤ g := (h1.lt g rfl).1
  obtain ⟨s0, t0⟩ := h1.stored i (.int .i64 v)
  have hgr := grown_set wr g i (.int .i64 v)
  refine ⟨by rw [List.map_set]; exact s0, by simpa using h2, fun x hx => ?_, h4.grown hgr (by simp; omega), h5.grown hgr (fun k hk => by simp at hk; omega), Upd.ofGrown (v := .slice (some ⟨g, 0, none⟩) n c) h6 hgr ⟨h1, by simp⟩⟩
  rcases List.mem_or_eq_of_mem_set hx with hx | rfl
  · exact h3 x hx
  · exact hv
/-- A drawn order, of the call's own. -/
def DrawIs (w : World) (R P c : Nat) (e : Ending) (w' : World) : Prop :=
  ∃ (v : Value) (l : List Int), e = .returned v ∧ Own w' w.heap.size 3 1 v l.length (l.map (Value.int .i64)) ∧ (∀ x ∈ l, 0 ≤ x ∧ x ≤ 20) ∧ l.length ≤ 20 ∧ Rd w' R (P + c) ∧ Upd R w w'
theorem plainM_next (k : Nat) : plainM (k + 1) = plainM k ++ [(k : Int)] := by simp [plainM, List.range_succ]
/-- The order of the numbers under way. -/
def PlD (w wr : World) (R P gA n : Nat) (L : List Acn) (v : Value) (k : Nat) : Prop :=
  Own wr w.heap.size 3 1 v k ((plainM k).map (Value.int .i64)) ∧ RowA wr (some ⟨gA, 0, none⟩) n L ∧ Rd wr R P ∧ Upd R w wr
theorem PlD.app {w wr w' : World} {R P gA n k : Nat} {L : List Acn} {v v' : Value} (h : PlD w wr R P gA n L v k) (o : Obj) (ho : Own w' w.heap.size 3 1 v' (k + 1) ((plainM k).map (Value.int .i64) ++ [.int .i64 (k : Int)])) (hg : (wr.alloc o).grownBy w' v.ownBlock) (hR : R < w.heap.size) (hA : gA < w.heap.size) : PlD w w' R P gA n L v' (k + 1) := by
  obtain ⟨h1, h2, h3, h4⟩ := h
  refine ⟨?_, (h2.below ((Below.refl _ _).alloc (Nat.le_refl _) o)).grown hg (fun e => by have := (h1.1.lt gA e.symm).1; omega), (h3.alloc _).grown hg (fun k hk => by have := (h1.1.lt k hk).1; omega), Upd.ofGrown (h4.alloc _) hg h1⟩
  rw [plainM_next, List.map_append]; exact ho
theorem PlD.fin {w wr : World} {R P gA n g c : Nat} {L : List Acn} (h : PlD w wr R P gA n L (.slice (some ⟨g, 0, none⟩) n c) n) : OrdD w wr R P gA n L g c (plainM n) :=
  ⟨h.1.1, plainM_len n, fun x hx => by obtain ⟨m, rfl, hm⟩ := plain_mem.1 hx; omega, h.2.1, h.2.2.1, h.2.2.2⟩
theorem OrdD.out {w wr : World} {R P P' gA n g c : Nat} {L : List Acn} {X : List Int} (h : OrdD w wr R P gA n L g c X) (hn : n ≤ 20) {c' : Nat} (hP : P ≤ P' + c') : DrawIs w R P' c' (.returned (.slice (some ⟨g, 0, none⟩) n c)) wr := by
  obtain ⟨h1, h2, h3, h4, h5, h6⟩ := h
  exact ⟨_, X, rfl, ⟨by rw [h2]; exact h1, by simp⟩, fun x hx => by have := h3 x hx; omega, by omega, h5.mono hP, h6⟩
theorem levelOrder_len (L : List Acn) : (lvOrdM (levelsM L)).length ≤ 10 := by
  rw [lvOrd_len (levels_bd L)]
  cases hL : actsB L with
  | false => rw [levelsM_no hL]; simp
  | true => rw [levelsM_len hL]; exact (actsB_true hL).1
set_option maxRecDepth 100000 in
set_option maxHeartbeats 8000000 in
theorem l20Order_any (R P gA cA n : Nat) (L : List Acn) (w : World) (h : Rd w R P) (hA : RowA w (some ⟨gA, 0, none⟩) n L) (hP : P ≤ 700000) (hn : n ≤ 20) (hgA : gA < w.heap.size) (hne : gA ≠ R) :
    Calls Try.prog 71 #[.pointer (some ⟨R, 0, none⟩), .slice (some ⟨gA, 0, none⟩) n cA] w (DrawIs w R P 50) := by
  have hRw := h.lt
  have hbA := (Below.refl w.heap.size w).alloc (Nat.le_refl _) (.cells #[] 3)
  have HP0 : Hid (PlD w (w.alloc (.cells #[] 3)) R P gA n L (.slice (some ⟨w.heap.size, 0, none⟩) 0 0) 0) := Lib.hid ⟨own_lit 3 1 #[] 0 (Nat.le_refl _) (by simp) rfl, hA.below hbA, h.alloc _, (Upd.refl R w).alloc _⟩
  clear h hA hbA
  go_enter Try.func71, Try.ntmps71
  go_wp2
  go_loopw [5, 6] (fun v i wr => ∃ k : Nat, k ≤ n ∧ i = .int .i64 k ∧ PlD w wr R P gA n L v k) (fun _ i _ => n - (intOf i).toNat)
  case atStart => exact ⟨0, Nat.zero_le _, rfl, HP0.out⟩
  case round =>
    clear HP0
    obtain ⟨k, hk, rfl, hD⟩ := hrel
    by_cases hlt : k < n
    · have HD := Lib.hid hD
      have HO := Lib.hid hD.1
      obtain ⟨gX, cX, hvX, -, -⟩ := hD.1.slice
      subst hvX
      have hs := hD.2.2.2.size
      clear hD
      go_wp2_with (at_builtin; refine wpList_append_one rfl _ _ 43 rfl w.heap.size 3 _ (.int .i64 0) 1 8 Try.underlying43 infoInt rfl (by decide) _ _ _ [.int .i64 (k : Int)] (by rfl) HO.out (by rfl) rfl ?c11 ?c21 (by decide) ?c31 ?_)
      case c11 => intro u hu; simp at hu; subst hu; rfl
      case c21 => omega
      case c31 => exact hs
      intro v6 w6 ho6 hg6
      have HD6 := Lib.hid (HD.out.app _ ho6 hg6 hRw hgA)
      clear HO HD ho6 hg6
      go_wp2
      go_roundw
      case rel => exact ⟨k + 1, by omega, by go_num, HD6.out⟩
      case measure => simp [intOf]; omega
    · obtain rfl : k = n := by omega
      obtain ⟨g, c, hvX, hg0, -⟩ := hD.1.slice
      subst hvX
      have HD := Lib.hid hD.fin
      have hr0 := hD.2.2.1
      clear hD hlt
      go_wp2_with fail
      refine (pick_pos R P 3 _ hr0 (by omega) (by omega) (by omega)).mono ?_; rintro e w1 ⟨x1, rfl, hx0, hx1, hr1, hu1⟩
      have HD1 := Lib.hid (HD.out.turn hr1 hu1 hRw hne)
      clear HD hr0 hu1
      by_cases hz : x1 = 0
      · subst hz
        have hA1 := HD1.out.2.2.2.1
        go_wp2_with fail
        refine (levelOrder_spec _ k cA L _ hA1).mono ?_; rintro e w2 ⟨v2, rfl, ho2, hw2, hb2⟩
        have hs1 := HD1.out.2.2.2.2.2.size
        have HF := Lib.hid (HD1.out.below hb2)
        have HV := Lib.hid (ho2.mono hs1)
        clear HD1 hA1 ho2 hb2
        go_wp2
        go_ret
        exact ⟨v2, lvOrdM (levelsM L), rfl, HV.out, fun x hx => by have := lvOrdM_wf (L := L) x hx; omega, by have := levelOrder_len L; omega, HF.out.2.2.2.2.1.mono (by omega), HF.out.2.2.2.2.2⟩
      · have hz2 : (x1 == 0) = false := by simpa using hz
        clear hz
        go_wp2_with fail
        refine (pick_pos R _ 6 _ hr1 (by omega) (by omega) (by omega)).mono ?_; rintro e w2 ⟨x2, rfl, hy0, hy1, hr2, hu2⟩
        have HD2 := Lib.hid (HD1.out.turn hr2 hu2 hRw hne)
        obtain ⟨k2, hk2⟩ : ∃ k2 : Nat, x2 = (k2 : Int) := ⟨x2.toNat, by omega⟩
        subst hk2
        clear HD1 hr1 hr2 hu2 hz2 hx0 hx1
        go_wp2
        go_loopw [7] (fun i wr => ∃ (m : Nat) (X : List Int), m ≤ 5 ∧ i = .int .i64 m ∧ OrdD w wr R (P + 2 + 2 * (5 - m)) gA k L g c X) (fun i _ => (intOf i).toNat)
        case atStart => exact ⟨k2, plainM k, by omega, rfl, HD2.out.mono (by omega)⟩
        case round =>
          clear HD2 hy0 hy1
          obtain ⟨m, X, hm, rfl, hD⟩ := hrel
          have HD := Lib.hid hD
          clear hD
          by_cases hm0 : 0 < m
          · have hm1 : decide ((0 : Int) < (m : Int)) = true := by simp; omega
            by_cases hk1 : 1 < k
            · have hk2' : decide ((1 : Int) < (k : Int)) = true := by simp; omega
              have hr3 := HD.out.2.2.2.2.1
              go_wp2_with fail
              refine (pick_pos R _ ((k : Int) - 1) _ hr3 (by omega) (by omega) (by omega)).mono ?_; rintro e w4 ⟨xj, rfl, hj0, hj1, hr4, hu4⟩
              obtain ⟨j, hj⟩ : ∃ j : Nat, xj = (j : Int) := ⟨xj.toNat, by omega⟩
              subst hj
              have HD4 := Lib.hid (HD.out.turn hr4 hu4 hRw hne)
              clear HD hr3 hr4 hu4
              go_wp2_with fail
              have hjk : j < k := by omega
              have hjk1 : j + 1 < k := by omega
              have hjl : decide ((j : Int) + 1 < (k : Int)) = true := by simp; omega
              have hjI : (j : Int) < (k : Int) := by omega
              have hjI1 : (j : Int) + 1 < (k : Int) := by omega
              have hj10 : (0 : Int) ≤ (j : Int) + 1 := by omega
              have hjn : ((j : Int) + 1).toNat = j + 1 := by omega
              have hjw : IntKind.i64.wrap ((j : Int) + 1) = (j : Int) + 1 := IntWalk.i64_in _ (by omega)
              obtain ⟨Y, hY, hYk⟩ := HD4.out.bd j hjk
              obtain ⟨Z, hZ, hZk⟩ := HD4.out.bd (j + 1) hjk1
              have HY := Lib.hid hY
              have HZ := Lib.hid hZ
              have hY1 : (Y : Int) < (k : Int) := by omega
              have hZ1 : (Z : Int) < (k : Int) := by omega
              clear hY hZ
              obtain ⟨y, hy⟩ : ∃ y, L.getD Y noA = y := ⟨_, rfl⟩
              obtain ⟨z, hz⟩ : ∃ z, L.getD Z noA = z := ⟨_, rfl⟩
              obtain ⟨p, q, r, t⟩ := y
              obtain ⟨p2, q2, r2, t2⟩ := z
              have HLA := Lib.hid hy
              have HLB := Lib.hid hz
              obtain ⟨v, hv⟩ : ∃ v, confM ⟨p, q, r, t⟩ ⟨p2, q2, r2, t2⟩ = v := ⟨_, rfl⟩
              have HU := Lib.hid hv
              clear hy hz hv
              have hS0 : OrdD w w4.drew R (P + 2 + 2 * (5 - m) + 1) gA k L g c X := HD4.out.below (Below.refl _ _).drew
              -- REGION
              refine wp_region_light (by kernel_rfl) (fun lz fz wz => ∃ (x : Int) (u : Bool), (x == 0) = u ∧ Vals (bif u then [(0, 42, (.pointer (some ⟨R, 0, none⟩))), (1, 43, (.int .i64 x)), (2, 44, (.bool true)), (3, 45, (.bool true)), (4, 46, undef), (5, 47, undef), (6, 48, undef), (7, 49, undef), (8, 50, undef), (9, 51, undef), (10, 52, undef), (11, 53, undef), (12, 54, undef), (13, 55, undef), (14, 56, undef), (15, 57, undef), (16, 58, undef), (17, 59, undef), (18, 60, undef), (19, 61, undef), (20, 62, undef), (21, 63, undef), (22, 64, undef), (23, 65, undef), (24, 66, undef), (25, 67, undef), (26, 68, undef), (27, 69, undef), (28, 70, (.bool true))] else [(0, 42, (.pointer (some ⟨R, 0, none⟩))), (1, 43, (.int .i64 x)), (2, 44, (.bool false)), (3, 45, (.bool false)), (4, 46, (.int .i64 (j : Int))), (5, 47, (.int .i64 ((j : Int) + 1))), (6, 48, (.slice (some ⟨g, 0, none⟩) k c)), (7, 49, (.int .i64 (k : Int))), (8, 50, (.bool true)), (9, 51, (.bool true)), (10, 52, (.slice (some ⟨gA, 0, none⟩) k cA)), (11, 53, (.slice (some ⟨g, 0, none⟩) k c)), (12, 54, (.int .i64 (j : Int))), (13, 55, (.pointer (some ⟨g, j, none⟩))), (14, 56, (.int .i64 (Y : Int))), (15, 57, (.pointer (some ⟨gA, Y * 4, none⟩))), (16, 58, (.agg #[.int .i64 p, .int .i64 q, .int .i64 r, .int .i64 t])), (17, 59, (.slice (some ⟨gA, 0, none⟩) k cA)), (18, 60, (.slice (some ⟨g, 0, none⟩) k c)), (19, 61, (.int .i64 (j : Int))), (20, 62, (.int .i64 ((j : Int) + 1))), (21, 63, (.pointer (some ⟨g, j + 1, none⟩))), (22, 64, (.int .i64 (Z : Int))), (23, 65, (.pointer (some ⟨gA, Z * 4, none⟩))), (24, 66, (.agg #[.int .i64 p2, .int .i64 q2, .int .i64 r2, .int .i64 t2])), (25, 67, (.bool v)), (26, 68, (.bool (!v))), (27, 69, (.bool (!v))), (28, 70, (.bool (!v)))]) lz fz ∧ PickW (fun wz => OrdD w wz R (P + 2 + 2 * (5 - m) + 1) gA k L g c X) (fun wz => OrdD w wz R (P + 2 + 2 * (5 - m) + 1 + 1) gA k L g c X) lz wz) 89 rfl [42, 43, 44, 45, 46, 47, 48, 49, 50, 51, 52, 53, 54, 55, 56, 57, 58, 59, 60, 61, 62, 63, 64, 65, 66, 67, 68, 69, 70] (by kernel_rfl) (by kernel_rfl) (by kernel_rfl) (fun f => ⟨0, true, rfl, Vals.nothing _ f, PickW.nothing ?_⟩) ?_ ?_
              · exact hS0
              · intro i hi
                rcases (by have : i < 29 := hi; omega : i = 0 ∨ i = 1 ∨ i = 2 ∨ i = 3 ∨ i = 4 ∨ i = 5 ∨ i = 6 ∨ i = 7 ∨ i = 8 ∨ i = 9 ∨ i = 10 ∨ i = 11 ∨ i = 12 ∨ i = 13 ∨ i = 14 ∨ i = 15 ∨ i = 16 ∨ i = 17 ∨ i = 18 ∨ i = 19 ∨ i = 20 ∨ i = 21 ∨ i = 22 ∨ i = 23 ∨ i = 24 ∨ i = 25 ∨ i = 26 ∨ i = 27 ∨ i = 28) with rfl | rfl | rfl | rfl | rfl | rfl | rfl | rfl | rfl | rfl | rfl | rfl | rfl | rfl | rfl | rfl | rfl | rfl | rfl | rfl | rfl | rfl | rfl | rfl | rfl | rfl | rfl | rfl | rfl
                · clear hi; intro o ho lz fz w' A hJ hli ha hA K hK
                  obtain ⟨x, u, hxu, hv, hq⟩ := hJ
                  obtain rfl := Option.some.inj ho
                  clear ho
                  cases u
                  case true =>
                    simp only [cond_true, cond_false] at hv
                    have g0 := slot_out hA 0 _ (by decide) (by decide) rfl
                    simp only [List.getD_cons_succ, List.getD_cons_zero] at g0
                    have gg0 := slot_get g0
                    rw [if_pos (by rfl)]
                    have hF := hK (.pointer (some ⟨R, 0, none⟩)) w' ⟨x, true, hxu, hv.step 0 42 _ (by simp), hq.still 0 (by omega) (.inl rfl)⟩
                    clear hv hq ha hK hA hli
                    go_simp
                    exact hF
                  case false =>
                    simp only [cond_true, cond_false] at hv
                    have g0 := slot_out hA 0 _ (by decide) (by decide) rfl
                    simp only [List.getD_cons_succ, List.getD_cons_zero] at g0
                    have gg0 := slot_get g0
                    rw [if_pos (by rfl)]
                    have hF := hK (.pointer (some ⟨R, 0, none⟩)) w' ⟨x, false, hxu, hv.step 0 42 _ (by simp), hq.still 0 (by omega) (.inl rfl)⟩
                    clear hv hq ha hK hA hli
                    go_simp
                    exact hF
                · clear hi; intro o ho lz fz w' A hJ hli ha hA K hK
                  obtain ⟨x, u, hxu, hv, hq⟩ := hJ
                  obtain rfl := Option.some.inj ho
                  clear ho
                  cases u
                  case true =>
                    simp only [cond_true, cond_false] at hv
                    have g42 := slot_in hA 42 (by decide) (by decide) (hv (0, 42, (.pointer (some ⟨R, 0, none⟩))) (by simp) (ha 0 (by simp [aftersOf, Region.binds])))
                    have gg42 := slot_get g42
                    rw [if_pos (by rfl)]
                    have hS := (hq.1 hli).2
                    have hall := (hq.1 hli).1
                    have hf0 : lz 0 = true → fz 42 = (.pointer (some ⟨R, 0, none⟩)) := hv (0, 42, (.pointer (some ⟨R, 0, none⟩))) (by simp)
                    clear hA hq hv
                    go_simp
                    have hr5 := hS.2.2.2.2.1
                    refine (pick_pos R _ 5 _ hr5 (by omega) (by omega) (by omega)).mono ?_
                    rintro e w9 ⟨x9, rfl, h50, h51, hr9, hu9x⟩
                    have hS9 := hS.turn hr9 hu9x hRw hne
                    obtain ⟨u9, hu9⟩ : ∃ u9, (x9 == 0) = u9 := ⟨_, rfl⟩
                    cases u9
                    case false => exact hK (.int .i64 x9) w9 ⟨x9, false, hu9, (Vals.first (T := [(0, 42, (.pointer (some ⟨R, 0, none⟩))), (1, 43, (.int .i64 x9)), (2, 44, (.bool false)), (3, 45, (.bool false)), (4, 46, (.int .i64 (j : Int))), (5, 47, (.int .i64 ((j : Int) + 1))), (6, 48, (.slice (some ⟨g, 0, none⟩) k c)), (7, 49, (.int .i64 (k : Int))), (8, 50, (.bool true)), (9, 51, (.bool true)), (10, 52, (.slice (some ⟨gA, 0, none⟩) k cA)), (11, 53, (.slice (some ⟨g, 0, none⟩) k c)), (12, 54, (.int .i64 (j : Int))), (13, 55, (.pointer (some ⟨g, j, none⟩))), (14, 56, (.int .i64 (Y : Int))), (15, 57, (.pointer (some ⟨gA, Y * 4, none⟩))), (16, 58, (.agg #[.int .i64 p, .int .i64 q, .int .i64 r, .int .i64 t])), (17, 59, (.slice (some ⟨gA, 0, none⟩) k cA)), (18, 60, (.slice (some ⟨g, 0, none⟩) k c)), (19, 61, (.int .i64 (j : Int))), (20, 62, (.int .i64 ((j : Int) + 1))), (21, 63, (.pointer (some ⟨g, j + 1, none⟩))), (22, 64, (.int .i64 (Z : Int))), (23, 65, (.pointer (some ⟨gA, Z * 4, none⟩))), (24, 66, (.agg #[.int .i64 p2, .int .i64 q2, .int .i64 r2, .int .i64 t2])), (25, 67, (.bool v)), (26, 68, (.bool (!v))), (27, 69, (.bool (!v))), (28, 70, (.bool (!v)))]) hall hf0 (by simp)).step 1 43 _ (by simp), PickW.pick hS9⟩
                    case true => exact hK (.int .i64 x9) w9 ⟨x9, true, hu9, (Vals.first (T := [(0, 42, (.pointer (some ⟨R, 0, none⟩))), (1, 43, (.int .i64 x9)), (2, 44, (.bool true)), (3, 45, (.bool true)), (4, 46, undef), (5, 47, undef), (6, 48, undef), (7, 49, undef), (8, 50, undef), (9, 51, undef), (10, 52, undef), (11, 53, undef), (12, 54, undef), (13, 55, undef), (14, 56, undef), (15, 57, undef), (16, 58, undef), (17, 59, undef), (18, 60, undef), (19, 61, undef), (20, 62, undef), (21, 63, undef), (22, 64, undef), (23, 65, undef), (24, 66, undef), (25, 67, undef), (26, 68, undef), (27, 69, undef), (28, 70, (.bool true))]) hall hf0 (by simp)).step 1 43 _ (by simp), PickW.pick hS9⟩
                  case false =>
                    simp only [cond_true, cond_false] at hv
                    have g42 := slot_in hA 42 (by decide) (by decide) (hv (0, 42, (.pointer (some ⟨R, 0, none⟩))) (by simp) (ha 0 (by simp [aftersOf, Region.binds])))
                    have gg42 := slot_get g42
                    rw [if_pos (by rfl)]
                    have hS := (hq.1 hli).2
                    have hall := (hq.1 hli).1
                    have hf0 : lz 0 = true → fz 42 = (.pointer (some ⟨R, 0, none⟩)) := hv (0, 42, (.pointer (some ⟨R, 0, none⟩))) (by simp)
                    clear hA hq hv
                    go_simp
                    have hr5 := hS.2.2.2.2.1
                    refine (pick_pos R _ 5 _ hr5 (by omega) (by omega) (by omega)).mono ?_
                    rintro e w9 ⟨x9, rfl, h50, h51, hr9, hu9x⟩
                    have hS9 := hS.turn hr9 hu9x hRw hne
                    obtain ⟨u9, hu9⟩ : ∃ u9, (x9 == 0) = u9 := ⟨_, rfl⟩
                    cases u9
                    case false => exact hK (.int .i64 x9) w9 ⟨x9, false, hu9, (Vals.first (T := [(0, 42, (.pointer (some ⟨R, 0, none⟩))), (1, 43, (.int .i64 x9)), (2, 44, (.bool false)), (3, 45, (.bool false)), (4, 46, (.int .i64 (j : Int))), (5, 47, (.int .i64 ((j : Int) + 1))), (6, 48, (.slice (some ⟨g, 0, none⟩) k c)), (7, 49, (.int .i64 (k : Int))), (8, 50, (.bool true)), (9, 51, (.bool true)), (10, 52, (.slice (some ⟨gA, 0, none⟩) k cA)), (11, 53, (.slice (some ⟨g, 0, none⟩) k c)), (12, 54, (.int .i64 (j : Int))), (13, 55, (.pointer (some ⟨g, j, none⟩))), (14, 56, (.int .i64 (Y : Int))), (15, 57, (.pointer (some ⟨gA, Y * 4, none⟩))), (16, 58, (.agg #[.int .i64 p, .int .i64 q, .int .i64 r, .int .i64 t])), (17, 59, (.slice (some ⟨gA, 0, none⟩) k cA)), (18, 60, (.slice (some ⟨g, 0, none⟩) k c)), (19, 61, (.int .i64 (j : Int))), (20, 62, (.int .i64 ((j : Int) + 1))), (21, 63, (.pointer (some ⟨g, j + 1, none⟩))), (22, 64, (.int .i64 (Z : Int))), (23, 65, (.pointer (some ⟨gA, Z * 4, none⟩))), (24, 66, (.agg #[.int .i64 p2, .int .i64 q2, .int .i64 r2, .int .i64 t2])), (25, 67, (.bool v)), (26, 68, (.bool (!v))), (27, 69, (.bool (!v))), (28, 70, (.bool (!v)))]) hall hf0 (by simp)).step 1 43 _ (by simp), PickW.pick hS9⟩
                    case true => exact hK (.int .i64 x9) w9 ⟨x9, true, hu9, (Vals.first (T := [(0, 42, (.pointer (some ⟨R, 0, none⟩))), (1, 43, (.int .i64 x9)), (2, 44, (.bool true)), (3, 45, (.bool true)), (4, 46, undef), (5, 47, undef), (6, 48, undef), (7, 49, undef), (8, 50, undef), (9, 51, undef), (10, 52, undef), (11, 53, undef), (12, 54, undef), (13, 55, undef), (14, 56, undef), (15, 57, undef), (16, 58, undef), (17, 59, undef), (18, 60, undef), (19, 61, undef), (20, 62, undef), (21, 63, undef), (22, 64, undef), (23, 65, undef), (24, 66, undef), (25, 67, undef), (26, 68, undef), (27, 69, undef), (28, 70, (.bool true))]) hall hf0 (by simp)).step 1 43 _ (by simp), PickW.pick hS9⟩
                · clear hi; intro o ho lz fz w' A hJ hli ha hA K hK
                  obtain ⟨x, u, hxu, hv, hq⟩ := hJ
                  obtain rfl := Option.some.inj ho
                  clear ho
                  cases u
                  case true =>
                    simp only [cond_true, cond_false] at hv
                    have g43 := slot_in hA 43 (by decide) (by decide) (hv (1, 43, (.int .i64 x)) (by simp) (ha 1 (by simp [aftersOf, Region.binds])))
                    have hl1 := hq.now (ha 1 (by simp [aftersOf, Region.binds])) (by omega)
                    have hS := hq.2 hl1
                    have gg43 := slot_get g43
                    rw [if_pos (by rfl)]
                    have hF := hK (.bool true) w' ⟨x, true, hxu, hv.step 2 44 _ (by simp), hq.still 2 (by omega) (.inr hl1)⟩
                    clear hv hq ha hK hA hli hS
                    have hxu2 : (x == 0) = true := hxu
                    go_simp
                    first | exact hF | (simp only [hxu2]; exact hF) | (simp [hxu2] at *; exact hF)
                  case false =>
                    simp only [cond_true, cond_false] at hv
                    have g43 := slot_in hA 43 (by decide) (by decide) (hv (1, 43, (.int .i64 x)) (by simp) (ha 1 (by simp [aftersOf, Region.binds])))
                    have hl1 := hq.now (ha 1 (by simp [aftersOf, Region.binds])) (by omega)
                    have hS := hq.2 hl1
                    have gg43 := slot_get g43
                    rw [if_pos (by rfl)]
                    have hF := hK (.bool false) w' ⟨x, false, hxu, hv.step 2 44 _ (by simp), hq.still 2 (by omega) (.inr hl1)⟩
                    clear hv hq ha hK hA hli hS
                    have hxu2 : (x == 0) = false := hxu
                    go_simp
                    first | exact hF | (simp only [hxu2]; exact hF) | (simp [hxu2] at *; exact hF)
                · clear hi; intro o ho lz fz w' A hJ hli ha hA K hK
                  obtain ⟨x, u, hxu, hv, hq⟩ := hJ
                  obtain rfl := Option.some.inj ho
                  clear ho
                  cases u
                  case true =>
                    simp only [cond_true, cond_false] at hv
                    have g44 := slot_in hA 44 (by decide) (by decide) (hv (2, 44, (.bool true)) (by simp) (ha 2 (by simp [aftersOf, Region.binds])))
                    have hl1 := hq.now (ha 2 (by simp [aftersOf, Region.binds])) (by omega)
                    have hS := hq.2 hl1
                    have gg44 := slot_get g44
                    rw [if_pos (by rfl)]
                    have hF := hK (.bool true) w' ⟨x, true, hxu, hv.step 3 45 _ (by simp), hq.still 3 (by omega) (.inr hl1)⟩
                    clear hv hq ha hK hA hli hS
                    go_simp
                    exact hF
                  case false =>
                    simp only [cond_true, cond_false] at hv
                    have g44 := slot_in hA 44 (by decide) (by decide) (hv (2, 44, (.bool false)) (by simp) (ha 2 (by simp [aftersOf, Region.binds])))
                    have hl1 := hq.now (ha 2 (by simp [aftersOf, Region.binds])) (by omega)
                    have hS := hq.2 hl1
                    have gg44 := slot_get g44
                    rw [if_pos (by rfl)]
                    have hF := hK (.bool false) w' ⟨x, false, hxu, hv.step 3 45 _ (by simp), hq.still 3 (by omega) (.inr hl1)⟩
                    clear hv hq ha hK hA hli hS
                    go_simp
                    exact hF
                · clear hi; intro o ho lz fz w' A hJ hli ha hA K hK
                  obtain ⟨x, u, hxu, hv, hq⟩ := hJ
                  obtain rfl := Option.some.inj ho
                  clear ho
                  cases u
                  case true =>
                    simp only [cond_true, cond_false] at hv
                    have g45 := slot_in hA 45 (by decide) (by decide) (hv (3, 45, (.bool true)) (by simp) (ha 3 (by simp [aftersOf, Region.binds])))
                    have hl1 := hq.now (ha 3 (by simp [aftersOf, Region.binds])) (by omega)
                    have hS := hq.2 hl1
                    have gg45 := slot_get g45
                    have gw := slot_bool g45
                    rw [if_neg (by simp [Region.wanted, yielded, gw])]
                    clear gw
                    exact hK undef w' ⟨x, true, hxu, hv.step 4 46 _ (by simp), hq.still 4 (by omega) (.inr hl1)⟩
                  case false =>
                    simp only [cond_true, cond_false] at hv
                    have g8 := slot_out hA 8 _ (by decide) (by decide) rfl
                    simp only [List.getD_cons_succ, List.getD_cons_zero] at g8
                    have g45 := slot_in hA 45 (by decide) (by decide) (hv (3, 45, (.bool false)) (by simp) (ha 3 (by simp [aftersOf, Region.binds])))
                    have hl1 := hq.now (ha 3 (by simp [aftersOf, Region.binds])) (by omega)
                    have hS := hq.2 hl1
                    have gg8 := slot_get g8
                    have gg45 := slot_get g45
                    have gw := slot_bool g45
                    rw [if_pos (by simp [Region.wanted, yielded, gw])]
                    clear gw
                    have hF := hK (.int .i64 (j : Int)) w' ⟨x, false, hxu, hv.step 4 46 _ (by simp), hq.still 4 (by omega) (.inr hl1)⟩
                    clear hv hq ha hK hA hli hS
                    go_simp
                    exact hF
                · clear hi; intro o ho lz fz w' A hJ hli ha hA K hK
                  obtain ⟨x, u, hxu, hv, hq⟩ := hJ
                  obtain rfl := Option.some.inj ho
                  clear ho
                  cases u
                  case true =>
                    simp only [cond_true, cond_false] at hv
                    have g45 := slot_in hA 45 (by decide) (by decide) (hv (3, 45, (.bool true)) (by simp) (ha 3 (by simp [aftersOf, Region.binds])))
                    have hl1 := hq.now (ha 3 (by simp [aftersOf, Region.binds])) (by omega)
                    have hS := hq.2 hl1
                    have gg45 := slot_get g45
                    have gw := slot_bool g45
                    rw [if_neg (by simp [Region.wanted, yielded, gw])]
                    clear gw
                    exact hK undef w' ⟨x, true, hxu, hv.step 5 47 _ (by simp), hq.still 5 (by omega) (.inr hl1)⟩
                  case false =>
                    simp only [cond_true, cond_false] at hv
                    have g46 := slot_in hA 46 (by decide) (by decide) (hv (4, 46, (.int .i64 (j : Int))) (by simp) (ha 4 (by simp [aftersOf, Region.binds])))
                    have g45 := slot_in hA 45 (by decide) (by decide) (hv (3, 45, (.bool false)) (by simp) (ha 3 (by simp [aftersOf, Region.binds])))
                    have hl1 := hq.now (ha 3 (by simp [aftersOf, Region.binds])) (by omega)
                    have hS := hq.2 hl1
                    have gg46 := slot_get g46
                    have gg45 := slot_get g45
                    have gw := slot_bool g45
                    rw [if_pos (by simp [Region.wanted, yielded, gw])]
                    clear gw
                    have hF := hK (.int .i64 ((j : Int) + 1)) w' ⟨x, false, hxu, hv.step 5 47 _ (by simp), hq.still 5 (by omega) (.inr hl1)⟩
                    clear hv hq ha hK hA hli hS
                    go_simp
                    exact hF
                · clear hi; intro o ho lz fz w' A hJ hli ha hA K hK
                  obtain ⟨x, u, hxu, hv, hq⟩ := hJ
                  obtain rfl := Option.some.inj ho
                  clear ho
                  cases u
                  case true =>
                    simp only [cond_true, cond_false] at hv
                    have g45 := slot_in hA 45 (by decide) (by decide) (hv (3, 45, (.bool true)) (by simp) (ha 3 (by simp [aftersOf, Region.binds])))
                    have hl1 := hq.now (ha 3 (by simp [aftersOf, Region.binds])) (by omega)
                    have hS := hq.2 hl1
                    have gg45 := slot_get g45
                    have gw := slot_bool g45
                    rw [if_neg (by simp [Region.wanted, yielded, gw])]
                    clear gw
                    exact hK undef w' ⟨x, true, hxu, hv.step 6 48 _ (by simp), hq.still 6 (by omega) (.inr hl1)⟩
                  case false =>
                    simp only [cond_true, cond_false] at hv
                    have g5 := slot_out hA 5 _ (by decide) (by decide) rfl
                    simp only [List.getD_cons_succ, List.getD_cons_zero] at g5
                    have g45 := slot_in hA 45 (by decide) (by decide) (hv (3, 45, (.bool false)) (by simp) (ha 3 (by simp [aftersOf, Region.binds])))
                    have hl1 := hq.now (ha 3 (by simp [aftersOf, Region.binds])) (by omega)
                    have hS := hq.2 hl1
                    have gg5 := slot_get g5
                    have gg45 := slot_get g45
                    have gw := slot_bool g45
                    rw [if_pos (by simp [Region.wanted, yielded, gw])]
                    clear gw
                    have hF := hK (.slice (some ⟨g, 0, none⟩) k c) w' ⟨x, false, hxu, hv.step 6 48 _ (by simp), hq.still 6 (by omega) (.inr hl1)⟩
                    clear hv hq ha hK hA hli hS
                    go_simp
                    exact hF
                · clear hi; intro o ho lz fz w' A hJ hli ha hA K hK
                  obtain ⟨x, u, hxu, hv, hq⟩ := hJ
                  obtain rfl := Option.some.inj ho
                  clear ho
                  cases u
                  case true =>
                    simp only [cond_true, cond_false] at hv
                    have g45 := slot_in hA 45 (by decide) (by decide) (hv (3, 45, (.bool true)) (by simp) (ha 3 (by simp [aftersOf, Region.binds])))
                    have hl1 := hq.now (ha 3 (by simp [aftersOf, Region.binds])) (by omega)
                    have hS := hq.2 hl1
                    have gg45 := slot_get g45
                    have gw := slot_bool g45
                    rw [if_neg (by simp [Region.wanted, yielded, gw])]
                    clear gw
                    exact hK undef w' ⟨x, true, hxu, hv.step 7 49 _ (by simp), hq.still 7 (by omega) (.inr hl1)⟩
                  case false =>
                    simp only [cond_true, cond_false] at hv
                    have g48 := slot_in hA 48 (by decide) (by decide) (hv (6, 48, (.slice (some ⟨g, 0, none⟩) k c)) (by simp) (ha 6 (by simp [aftersOf, Region.binds])))
                    have g45 := slot_in hA 45 (by decide) (by decide) (hv (3, 45, (.bool false)) (by simp) (ha 3 (by simp [aftersOf, Region.binds])))
                    have hl1 := hq.now (ha 3 (by simp [aftersOf, Region.binds])) (by omega)
                    have hS := hq.2 hl1
                    have gg48 := slot_get g48
                    have gg45 := slot_get g45
                    have gw := slot_bool g45
                    rw [if_pos (by simp [Region.wanted, yielded, gw])]
                    clear gw
                    have hF := hK (.int .i64 (k : Int)) w' ⟨x, false, hxu, hv.step 7 49 _ (by simp), hq.still 7 (by omega) (.inr hl1)⟩
                    clear hv hq ha hK hA hli hS
                    go_simp
                    exact hF
                · clear hi; intro o ho lz fz w' A hJ hli ha hA K hK
                  obtain ⟨x, u, hxu, hv, hq⟩ := hJ
                  obtain rfl := Option.some.inj ho
                  clear ho
                  cases u
                  case true =>
                    simp only [cond_true, cond_false] at hv
                    have g45 := slot_in hA 45 (by decide) (by decide) (hv (3, 45, (.bool true)) (by simp) (ha 3 (by simp [aftersOf, Region.binds])))
                    have hl1 := hq.now (ha 3 (by simp [aftersOf, Region.binds])) (by omega)
                    have hS := hq.2 hl1
                    have gg45 := slot_get g45
                    have gw := slot_bool g45
                    rw [if_neg (by simp [Region.wanted, yielded, gw])]
                    clear gw
                    exact hK undef w' ⟨x, true, hxu, hv.step 8 50 _ (by simp), hq.still 8 (by omega) (.inr hl1)⟩
                  case false =>
                    simp only [cond_true, cond_false] at hv
                    have g47 := slot_in hA 47 (by decide) (by decide) (hv (5, 47, (.int .i64 ((j : Int) + 1))) (by simp) (ha 5 (by simp [aftersOf, Region.binds])))
                    have g49 := slot_in hA 49 (by decide) (by decide) (hv (7, 49, (.int .i64 (k : Int))) (by simp) (ha 7 (by simp [aftersOf, Region.binds])))
                    have g45 := slot_in hA 45 (by decide) (by decide) (hv (3, 45, (.bool false)) (by simp) (ha 3 (by simp [aftersOf, Region.binds])))
                    have hl1 := hq.now (ha 3 (by simp [aftersOf, Region.binds])) (by omega)
                    have hS := hq.2 hl1
                    have gg47 := slot_get g47
                    have gg49 := slot_get g49
                    have gg45 := slot_get g45
                    have gw := slot_bool g45
                    rw [if_pos (by simp [Region.wanted, yielded, gw])]
                    clear gw
                    have hF := hK (.bool true) w' ⟨x, false, hxu, hv.step 8 50 _ (by simp), hq.still 8 (by omega) (.inr hl1)⟩
                    clear hv hq ha hK hA hli hS
                    go_simp
                    exact hF
                · clear hi; intro o ho lz fz w' A hJ hli ha hA K hK
                  obtain ⟨x, u, hxu, hv, hq⟩ := hJ
                  obtain rfl := Option.some.inj ho
                  clear ho
                  cases u
                  case true =>
                    simp only [cond_true, cond_false] at hv
                    have g45 := slot_in hA 45 (by decide) (by decide) (hv (3, 45, (.bool true)) (by simp) (ha 3 (by simp [aftersOf, Region.binds])))
                    have hl1 := hq.now (ha 3 (by simp [aftersOf, Region.binds])) (by omega)
                    have hS := hq.2 hl1
                    have gg45 := slot_get g45
                    have gw := slot_bool g45
                    rw [if_neg (by simp [Region.wanted, yielded, gw])]
                    clear gw
                    exact hK undef w' ⟨x, true, hxu, hv.step 9 51 _ (by simp), hq.still 9 (by omega) (.inr hl1)⟩
                  case false =>
                    simp only [cond_true, cond_false] at hv
                    have g50 := slot_in hA 50 (by decide) (by decide) (hv (8, 50, (.bool true)) (by simp) (ha 8 (by simp [aftersOf, Region.binds])))
                    have g45 := slot_in hA 45 (by decide) (by decide) (hv (3, 45, (.bool false)) (by simp) (ha 3 (by simp [aftersOf, Region.binds])))
                    have hl1 := hq.now (ha 3 (by simp [aftersOf, Region.binds])) (by omega)
                    have hS := hq.2 hl1
                    have gg50 := slot_get g50
                    have gg45 := slot_get g45
                    have gw := slot_bool g45
                    rw [if_pos (by simp [Region.wanted, yielded, gw])]
                    clear gw
                    have hF := hK (.bool true) w' ⟨x, false, hxu, hv.step 9 51 _ (by simp), hq.still 9 (by omega) (.inr hl1)⟩
                    clear hv hq ha hK hA hli hS
                    go_simp
                    exact hF
                · clear hi; intro o ho lz fz w' A hJ hli ha hA K hK
                  obtain ⟨x, u, hxu, hv, hq⟩ := hJ
                  obtain rfl := Option.some.inj ho
                  clear ho
                  cases u
                  case true =>
                    simp only [cond_true, cond_false] at hv
                    have g51 := slot_in hA 51 (by decide) (by decide) (hv (9, 51, undef) (by simp) (ha 9 (by simp [aftersOf, Region.binds])))
                    have hl1 := hq.now (ha 9 (by simp [aftersOf, Region.binds])) (by omega)
                    have hS := hq.2 hl1
                    have gw := slot_no g51
                    rw [if_neg (by rcases gw with gw | gw <;> simp [Region.wanted, yielded, gw, undef])]
                    clear gw
                    exact hK undef w' ⟨x, true, hxu, hv.step 10 52 _ (by simp), hq.still 10 (by omega) (.inr hl1)⟩
                  case false =>
                    simp only [cond_true, cond_false] at hv
                    have g1 := slot_out hA 1 _ (by decide) (by decide) rfl
                    simp only [List.getD_cons_succ, List.getD_cons_zero] at g1
                    have g51 := slot_in hA 51 (by decide) (by decide) (hv (9, 51, (.bool true)) (by simp) (ha 9 (by simp [aftersOf, Region.binds])))
                    have hl1 := hq.now (ha 9 (by simp [aftersOf, Region.binds])) (by omega)
                    have hS := hq.2 hl1
                    have gg1 := slot_get g1
                    have gg51 := slot_get g51
                    have gw := slot_bool g51
                    rw [if_pos (by simp [Region.wanted, yielded, gw])]
                    clear gw
                    have hF := hK (.slice (some ⟨gA, 0, none⟩) k cA) w' ⟨x, false, hxu, hv.step 10 52 _ (by simp), hq.still 10 (by omega) (.inr hl1)⟩
                    clear hv hq ha hK hA hli hS
                    go_simp
                    exact hF
                · clear hi; intro o ho lz fz w' A hJ hli ha hA K hK
                  obtain ⟨x, u, hxu, hv, hq⟩ := hJ
                  obtain rfl := Option.some.inj ho
                  clear ho
                  cases u
                  case true =>
                    simp only [cond_true, cond_false] at hv
                    have g51 := slot_in hA 51 (by decide) (by decide) (hv (9, 51, undef) (by simp) (ha 9 (by simp [aftersOf, Region.binds])))
                    have hl1 := hq.now (ha 9 (by simp [aftersOf, Region.binds])) (by omega)
                    have hS := hq.2 hl1
                    have gw := slot_no g51
                    rw [if_neg (by rcases gw with gw | gw <;> simp [Region.wanted, yielded, gw, undef])]
                    clear gw
                    exact hK undef w' ⟨x, true, hxu, hv.step 11 53 _ (by simp), hq.still 11 (by omega) (.inr hl1)⟩
                  case false =>
                    simp only [cond_true, cond_false] at hv
                    have g5 := slot_out hA 5 _ (by decide) (by decide) rfl
                    simp only [List.getD_cons_succ, List.getD_cons_zero] at g5
                    have g51 := slot_in hA 51 (by decide) (by decide) (hv (9, 51, (.bool true)) (by simp) (ha 9 (by simp [aftersOf, Region.binds])))
                    have hl1 := hq.now (ha 9 (by simp [aftersOf, Region.binds])) (by omega)
                    have hS := hq.2 hl1
                    have gg5 := slot_get g5
                    have gg51 := slot_get g51
                    have gw := slot_bool g51
                    rw [if_pos (by simp [Region.wanted, yielded, gw])]
                    clear gw
                    have hF := hK (.slice (some ⟨g, 0, none⟩) k c) w' ⟨x, false, hxu, hv.step 11 53 _ (by simp), hq.still 11 (by omega) (.inr hl1)⟩
                    clear hv hq ha hK hA hli hS
                    go_simp
                    exact hF
                · clear hi; intro o ho lz fz w' A hJ hli ha hA K hK
                  obtain ⟨x, u, hxu, hv, hq⟩ := hJ
                  obtain rfl := Option.some.inj ho
                  clear ho
                  cases u
                  case true =>
                    simp only [cond_true, cond_false] at hv
                    have g51 := slot_in hA 51 (by decide) (by decide) (hv (9, 51, undef) (by simp) (ha 9 (by simp [aftersOf, Region.binds])))
                    have hl1 := hq.now (ha 9 (by simp [aftersOf, Region.binds])) (by omega)
                    have hS := hq.2 hl1
                    have gw := slot_no g51
                    rw [if_neg (by rcases gw with gw | gw <;> simp [Region.wanted, yielded, gw, undef])]
                    clear gw
                    exact hK undef w' ⟨x, true, hxu, hv.step 12 54 _ (by simp), hq.still 12 (by omega) (.inr hl1)⟩
                  case false =>
                    simp only [cond_true, cond_false] at hv
                    have g8 := slot_out hA 8 _ (by decide) (by decide) rfl
                    simp only [List.getD_cons_succ, List.getD_cons_zero] at g8
                    have g51 := slot_in hA 51 (by decide) (by decide) (hv (9, 51, (.bool true)) (by simp) (ha 9 (by simp [aftersOf, Region.binds])))
                    have hl1 := hq.now (ha 9 (by simp [aftersOf, Region.binds])) (by omega)
                    have hS := hq.2 hl1
                    have gg8 := slot_get g8
                    have gg51 := slot_get g51
                    have gw := slot_bool g51
                    rw [if_pos (by simp [Region.wanted, yielded, gw])]
                    clear gw
                    have hF := hK (.int .i64 (j : Int)) w' ⟨x, false, hxu, hv.step 12 54 _ (by simp), hq.still 12 (by omega) (.inr hl1)⟩
                    clear hv hq ha hK hA hli hS
                    go_simp
                    exact hF
                · clear hi; intro o ho lz fz w' A hJ hli ha hA K hK
                  obtain ⟨x, u, hxu, hv, hq⟩ := hJ
                  obtain rfl := Option.some.inj ho
                  clear ho
                  cases u
                  case true =>
                    simp only [cond_true, cond_false] at hv
                    have g51 := slot_in hA 51 (by decide) (by decide) (hv (9, 51, undef) (by simp) (ha 9 (by simp [aftersOf, Region.binds])))
                    have hl1 := hq.now (ha 9 (by simp [aftersOf, Region.binds])) (by omega)
                    have hS := hq.2 hl1
                    have gw := slot_no g51
                    rw [if_neg (by rcases gw with gw | gw <;> simp [Region.wanted, yielded, gw, undef])]
                    clear gw
                    exact hK undef w' ⟨x, true, hxu, hv.step 13 55 _ (by simp), hq.still 13 (by omega) (.inr hl1)⟩
                  case false =>
                    simp only [cond_true, cond_false] at hv
                    have g53 := slot_in hA 53 (by decide) (by decide) (hv (11, 53, (.slice (some ⟨g, 0, none⟩) k c)) (by simp) (ha 11 (by simp [aftersOf, Region.binds])))
                    have g54 := slot_in hA 54 (by decide) (by decide) (hv (12, 54, (.int .i64 (j : Int))) (by simp) (ha 12 (by simp [aftersOf, Region.binds])))
                    have g51 := slot_in hA 51 (by decide) (by decide) (hv (9, 51, (.bool true)) (by simp) (ha 9 (by simp [aftersOf, Region.binds])))
                    have hl1 := hq.now (ha 9 (by simp [aftersOf, Region.binds])) (by omega)
                    have hS := hq.2 hl1
                    have gg53 := slot_get g53
                    have gg54 := slot_get g54
                    have gg51 := slot_get g51
                    have gw := slot_bool g51
                    rw [if_pos (by simp [Region.wanted, yielded, gw])]
                    clear gw
                    have hF := hK (.pointer (some ⟨g, j, none⟩)) w' ⟨x, false, hxu, hv.step 13 55 _ (by simp), hq.still 13 (by omega) (.inr hl1)⟩
                    clear hv hq ha hK hA hli hS
                    go_simp
                    exact hF
                · clear hi; intro o ho lz fz w' A hJ hli ha hA K hK
                  obtain ⟨x, u, hxu, hv, hq⟩ := hJ
                  obtain rfl := Option.some.inj ho
                  clear ho
                  cases u
                  case true =>
                    simp only [cond_true, cond_false] at hv
                    have g51 := slot_in hA 51 (by decide) (by decide) (hv (9, 51, undef) (by simp) (ha 9 (by simp [aftersOf, Region.binds])))
                    have hl1 := hq.now (ha 9 (by simp [aftersOf, Region.binds])) (by omega)
                    have hS := hq.2 hl1
                    have gw := slot_no g51
                    rw [if_neg (by rcases gw with gw | gw <;> simp [Region.wanted, yielded, gw, undef])]
                    clear gw
                    exact hK undef w' ⟨x, true, hxu, hv.step 14 56 _ (by simp), hq.still 14 (by omega) (.inr hl1)⟩
                  case false =>
                    simp only [cond_true, cond_false] at hv
                    have g55 := slot_in hA 55 (by decide) (by decide) (hv (13, 55, (.pointer (some ⟨g, j, none⟩))) (by simp) (ha 13 (by simp [aftersOf, Region.binds])))
                    have g51 := slot_in hA 51 (by decide) (by decide) (hv (9, 51, (.bool true)) (by simp) (ha 9 (by simp [aftersOf, Region.binds])))
                    have hl1 := hq.now (ha 9 (by simp [aftersOf, Region.binds])) (by omega)
                    have hS := hq.2 hl1
                    have gg55 := slot_get g55
                    have gg51 := slot_get g51
                    have gw := slot_bool g51
                    rw [if_pos (by simp [Region.wanted, yielded, gw])]
                    clear gw
                    have kc := hS.cell j hjk
                    rw [HY.out] at kc
                    have hF := hK (.int .i64 (Y : Int)) w' ⟨x, false, hxu, hv.step 14 56 _ (by simp), hq.still 14 (by omega) (.inr hl1)⟩
                    clear hv hq ha hK hA hli hS
                    go_simp
                    exact hF
                · clear hi; intro o ho lz fz w' A hJ hli ha hA K hK
                  obtain ⟨x, u, hxu, hv, hq⟩ := hJ
                  obtain rfl := Option.some.inj ho
                  clear ho
                  cases u
                  case true =>
                    simp only [cond_true, cond_false] at hv
                    have g51 := slot_in hA 51 (by decide) (by decide) (hv (9, 51, undef) (by simp) (ha 9 (by simp [aftersOf, Region.binds])))
                    have hl1 := hq.now (ha 9 (by simp [aftersOf, Region.binds])) (by omega)
                    have hS := hq.2 hl1
                    have gw := slot_no g51
                    rw [if_neg (by rcases gw with gw | gw <;> simp [Region.wanted, yielded, gw, undef])]
                    clear gw
                    exact hK undef w' ⟨x, true, hxu, hv.step 15 57 _ (by simp), hq.still 15 (by omega) (.inr hl1)⟩
                  case false =>
                    simp only [cond_true, cond_false] at hv
                    have g52 := slot_in hA 52 (by decide) (by decide) (hv (10, 52, (.slice (some ⟨gA, 0, none⟩) k cA)) (by simp) (ha 10 (by simp [aftersOf, Region.binds])))
                    have g56 := slot_in hA 56 (by decide) (by decide) (hv (14, 56, (.int .i64 (Y : Int))) (by simp) (ha 14 (by simp [aftersOf, Region.binds])))
                    have g51 := slot_in hA 51 (by decide) (by decide) (hv (9, 51, (.bool true)) (by simp) (ha 9 (by simp [aftersOf, Region.binds])))
                    have hl1 := hq.now (ha 9 (by simp [aftersOf, Region.binds])) (by omega)
                    have hS := hq.2 hl1
                    have gg52 := slot_get g52
                    have gg56 := slot_get g56
                    have gg51 := slot_get g51
                    have gw := slot_bool g51
                    rw [if_pos (by simp [Region.wanted, yielded, gw])]
                    clear gw
                    have hF := hK (.pointer (some ⟨gA, Y * 4, none⟩)) w' ⟨x, false, hxu, hv.step 15 57 _ (by simp), hq.still 15 (by omega) (.inr hl1)⟩
                    clear hv hq ha hK hA hli hS
                    go_simp
                    exact hF
                · clear hi; intro o ho lz fz w' A hJ hli ha hA K hK
                  obtain ⟨x, u, hxu, hv, hq⟩ := hJ
                  obtain rfl := Option.some.inj ho
                  clear ho
                  cases u
                  case true =>
                    simp only [cond_true, cond_false] at hv
                    have g51 := slot_in hA 51 (by decide) (by decide) (hv (9, 51, undef) (by simp) (ha 9 (by simp [aftersOf, Region.binds])))
                    have hl1 := hq.now (ha 9 (by simp [aftersOf, Region.binds])) (by omega)
                    have hS := hq.2 hl1
                    have gw := slot_no g51
                    rw [if_neg (by rcases gw with gw | gw <;> simp [Region.wanted, yielded, gw, undef])]
                    clear gw
                    exact hK undef w' ⟨x, true, hxu, hv.step 16 58 _ (by simp), hq.still 16 (by omega) (.inr hl1)⟩
                  case false =>
                    simp only [cond_true, cond_false] at hv
                    have g57 := slot_in hA 57 (by decide) (by decide) (hv (15, 57, (.pointer (some ⟨gA, Y * 4, none⟩))) (by simp) (ha 15 (by simp [aftersOf, Region.binds])))
                    have g51 := slot_in hA 51 (by decide) (by decide) (hv (9, 51, (.bool true)) (by simp) (ha 9 (by simp [aftersOf, Region.binds])))
                    have hl1 := hq.now (ha 9 (by simp [aftersOf, Region.binds])) (by omega)
                    have hS := hq.2 hl1
                    have gg57 := slot_get g57
                    have gg51 := slot_get g51
                    have gw := slot_bool g51
                    rw [if_pos (by simp [Region.wanted, yielded, gw])]
                    clear gw
                    obtain ⟨k0, k1, k2, k3⟩ := hS.2.2.2.1.cells (i := Y) hYk
                    rw [HLA.out] at k0 k1 k2 k3
                    rw [Nat.zero_add] at k0 k1 k2 k3
                    have hF := hK (.agg #[.int .i64 p, .int .i64 q, .int .i64 r, .int .i64 t]) w' ⟨x, false, hxu, hv.step 16 58 _ (by simp), hq.still 16 (by omega) (.inr hl1)⟩
                    clear hv hq ha hK hA hli hS
                    go_simp
                    exact hF
                · clear hi; intro o ho lz fz w' A hJ hli ha hA K hK
                  obtain ⟨x, u, hxu, hv, hq⟩ := hJ
                  obtain rfl := Option.some.inj ho
                  clear ho
                  cases u
                  case true =>
                    simp only [cond_true, cond_false] at hv
                    have g51 := slot_in hA 51 (by decide) (by decide) (hv (9, 51, undef) (by simp) (ha 9 (by simp [aftersOf, Region.binds])))
                    have hl1 := hq.now (ha 9 (by simp [aftersOf, Region.binds])) (by omega)
                    have hS := hq.2 hl1
                    have gw := slot_no g51
                    rw [if_neg (by rcases gw with gw | gw <;> simp [Region.wanted, yielded, gw, undef])]
                    clear gw
                    exact hK undef w' ⟨x, true, hxu, hv.step 17 59 _ (by simp), hq.still 17 (by omega) (.inr hl1)⟩
                  case false =>
                    simp only [cond_true, cond_false] at hv
                    have g1 := slot_out hA 1 _ (by decide) (by decide) rfl
                    simp only [List.getD_cons_succ, List.getD_cons_zero] at g1
                    have g51 := slot_in hA 51 (by decide) (by decide) (hv (9, 51, (.bool true)) (by simp) (ha 9 (by simp [aftersOf, Region.binds])))
                    have hl1 := hq.now (ha 9 (by simp [aftersOf, Region.binds])) (by omega)
                    have hS := hq.2 hl1
                    have gg1 := slot_get g1
                    have gg51 := slot_get g51
                    have gw := slot_bool g51
                    rw [if_pos (by simp [Region.wanted, yielded, gw])]
                    clear gw
                    have hF := hK (.slice (some ⟨gA, 0, none⟩) k cA) w' ⟨x, false, hxu, hv.step 17 59 _ (by simp), hq.still 17 (by omega) (.inr hl1)⟩
                    clear hv hq ha hK hA hli hS
                    go_simp
                    exact hF
                · clear hi; intro o ho lz fz w' A hJ hli ha hA K hK
                  obtain ⟨x, u, hxu, hv, hq⟩ := hJ
                  obtain rfl := Option.some.inj ho
                  clear ho
                  cases u
                  case true =>
                    simp only [cond_true, cond_false] at hv
                    have g51 := slot_in hA 51 (by decide) (by decide) (hv (9, 51, undef) (by simp) (ha 9 (by simp [aftersOf, Region.binds])))
                    have hl1 := hq.now (ha 9 (by simp [aftersOf, Region.binds])) (by omega)
                    have hS := hq.2 hl1
                    have gw := slot_no g51
                    rw [if_neg (by rcases gw with gw | gw <;> simp [Region.wanted, yielded, gw, undef])]
                    clear gw
                    exact hK undef w' ⟨x, true, hxu, hv.step 18 60 _ (by simp), hq.still 18 (by omega) (.inr hl1)⟩
                  case false =>
                    simp only [cond_true, cond_false] at hv
                    have g5 := slot_out hA 5 _ (by decide) (by decide) rfl
                    simp only [List.getD_cons_succ, List.getD_cons_zero] at g5
                    have g51 := slot_in hA 51 (by decide) (by decide) (hv (9, 51, (.bool true)) (by simp) (ha 9 (by simp [aftersOf, Region.binds])))
                    have hl1 := hq.now (ha 9 (by simp [aftersOf, Region.binds])) (by omega)
                    have hS := hq.2 hl1
                    have gg5 := slot_get g5
                    have gg51 := slot_get g51
                    have gw := slot_bool g51
                    rw [if_pos (by simp [Region.wanted, yielded, gw])]
                    clear gw
                    have hF := hK (.slice (some ⟨g, 0, none⟩) k c) w' ⟨x, false, hxu, hv.step 18 60 _ (by simp), hq.still 18 (by omega) (.inr hl1)⟩
                    clear hv hq ha hK hA hli hS
                    go_simp
                    exact hF
                · clear hi; intro o ho lz fz w' A hJ hli ha hA K hK
                  obtain ⟨x, u, hxu, hv, hq⟩ := hJ
                  obtain rfl := Option.some.inj ho
                  clear ho
                  cases u
                  case true =>
                    simp only [cond_true, cond_false] at hv
                    have g51 := slot_in hA 51 (by decide) (by decide) (hv (9, 51, undef) (by simp) (ha 9 (by simp [aftersOf, Region.binds])))
                    have hl1 := hq.now (ha 9 (by simp [aftersOf, Region.binds])) (by omega)
                    have hS := hq.2 hl1
                    have gw := slot_no g51
                    rw [if_neg (by rcases gw with gw | gw <;> simp [Region.wanted, yielded, gw, undef])]
                    clear gw
                    exact hK undef w' ⟨x, true, hxu, hv.step 19 61 _ (by simp), hq.still 19 (by omega) (.inr hl1)⟩
                  case false =>
                    simp only [cond_true, cond_false] at hv
                    have g8 := slot_out hA 8 _ (by decide) (by decide) rfl
                    simp only [List.getD_cons_succ, List.getD_cons_zero] at g8
                    have g51 := slot_in hA 51 (by decide) (by decide) (hv (9, 51, (.bool true)) (by simp) (ha 9 (by simp [aftersOf, Region.binds])))
                    have hl1 := hq.now (ha 9 (by simp [aftersOf, Region.binds])) (by omega)
                    have hS := hq.2 hl1
                    have gg8 := slot_get g8
                    have gg51 := slot_get g51
                    have gw := slot_bool g51
                    rw [if_pos (by simp [Region.wanted, yielded, gw])]
                    clear gw
                    have hF := hK (.int .i64 (j : Int)) w' ⟨x, false, hxu, hv.step 19 61 _ (by simp), hq.still 19 (by omega) (.inr hl1)⟩
                    clear hv hq ha hK hA hli hS
                    go_simp
                    exact hF
                · clear hi; intro o ho lz fz w' A hJ hli ha hA K hK
                  obtain ⟨x, u, hxu, hv, hq⟩ := hJ
                  obtain rfl := Option.some.inj ho
                  clear ho
                  cases u
                  case true =>
                    simp only [cond_true, cond_false] at hv
                    have g51 := slot_in hA 51 (by decide) (by decide) (hv (9, 51, undef) (by simp) (ha 9 (by simp [aftersOf, Region.binds])))
                    have hl1 := hq.now (ha 9 (by simp [aftersOf, Region.binds])) (by omega)
                    have hS := hq.2 hl1
                    have gw := slot_no g51
                    rw [if_neg (by rcases gw with gw | gw <;> simp [Region.wanted, yielded, gw, undef])]
                    clear gw
                    exact hK undef w' ⟨x, true, hxu, hv.step 20 62 _ (by simp), hq.still 20 (by omega) (.inr hl1)⟩
                  case false =>
                    simp only [cond_true, cond_false] at hv
                    have g61 := slot_in hA 61 (by decide) (by decide) (hv (19, 61, (.int .i64 (j : Int))) (by simp) (ha 19 (by simp [aftersOf, Region.binds])))
                    have g51 := slot_in hA 51 (by decide) (by decide) (hv (9, 51, (.bool true)) (by simp) (ha 9 (by simp [aftersOf, Region.binds])))
                    have hl1 := hq.now (ha 9 (by simp [aftersOf, Region.binds])) (by omega)
                    have hS := hq.2 hl1
                    have gg61 := slot_get g61
                    have gg51 := slot_get g51
                    have gw := slot_bool g51
                    rw [if_pos (by simp [Region.wanted, yielded, gw])]
                    clear gw
                    have hF := hK (.int .i64 ((j : Int) + 1)) w' ⟨x, false, hxu, hv.step 20 62 _ (by simp), hq.still 20 (by omega) (.inr hl1)⟩
                    clear hv hq ha hK hA hli hS
                    go_simp
                    exact hF
                · clear hi; intro o ho lz fz w' A hJ hli ha hA K hK
                  obtain ⟨x, u, hxu, hv, hq⟩ := hJ
                  obtain rfl := Option.some.inj ho
                  clear ho
                  cases u
                  case true =>
                    simp only [cond_true, cond_false] at hv
                    have g51 := slot_in hA 51 (by decide) (by decide) (hv (9, 51, undef) (by simp) (ha 9 (by simp [aftersOf, Region.binds])))
                    have hl1 := hq.now (ha 9 (by simp [aftersOf, Region.binds])) (by omega)
                    have hS := hq.2 hl1
                    have gw := slot_no g51
                    rw [if_neg (by rcases gw with gw | gw <;> simp [Region.wanted, yielded, gw, undef])]
                    clear gw
                    exact hK undef w' ⟨x, true, hxu, hv.step 21 63 _ (by simp), hq.still 21 (by omega) (.inr hl1)⟩
                  case false =>
                    simp only [cond_true, cond_false] at hv
                    have g60 := slot_in hA 60 (by decide) (by decide) (hv (18, 60, (.slice (some ⟨g, 0, none⟩) k c)) (by simp) (ha 18 (by simp [aftersOf, Region.binds])))
                    have g62 := slot_in hA 62 (by decide) (by decide) (hv (20, 62, (.int .i64 ((j : Int) + 1))) (by simp) (ha 20 (by simp [aftersOf, Region.binds])))
                    have g51 := slot_in hA 51 (by decide) (by decide) (hv (9, 51, (.bool true)) (by simp) (ha 9 (by simp [aftersOf, Region.binds])))
                    have hl1 := hq.now (ha 9 (by simp [aftersOf, Region.binds])) (by omega)
                    have hS := hq.2 hl1
                    have gg60 := slot_get g60
                    have gg62 := slot_get g62
                    have gg51 := slot_get g51
                    have gw := slot_bool g51
                    rw [if_pos (by simp [Region.wanted, yielded, gw])]
                    clear gw
                    have hF := hK (.pointer (some ⟨g, j + 1, none⟩)) w' ⟨x, false, hxu, hv.step 21 63 _ (by simp), hq.still 21 (by omega) (.inr hl1)⟩
                    clear hv hq ha hK hA hli hS
                    go_simp
                    exact hF
                · clear hi; intro o ho lz fz w' A hJ hli ha hA K hK
                  obtain ⟨x, u, hxu, hv, hq⟩ := hJ
                  obtain rfl := Option.some.inj ho
                  clear ho
                  cases u
                  case true =>
                    simp only [cond_true, cond_false] at hv
                    have g51 := slot_in hA 51 (by decide) (by decide) (hv (9, 51, undef) (by simp) (ha 9 (by simp [aftersOf, Region.binds])))
                    have hl1 := hq.now (ha 9 (by simp [aftersOf, Region.binds])) (by omega)
                    have hS := hq.2 hl1
                    have gw := slot_no g51
                    rw [if_neg (by rcases gw with gw | gw <;> simp [Region.wanted, yielded, gw, undef])]
                    clear gw
                    exact hK undef w' ⟨x, true, hxu, hv.step 22 64 _ (by simp), hq.still 22 (by omega) (.inr hl1)⟩
                  case false =>
                    simp only [cond_true, cond_false] at hv
                    have g63 := slot_in hA 63 (by decide) (by decide) (hv (21, 63, (.pointer (some ⟨g, j + 1, none⟩))) (by simp) (ha 21 (by simp [aftersOf, Region.binds])))
                    have g51 := slot_in hA 51 (by decide) (by decide) (hv (9, 51, (.bool true)) (by simp) (ha 9 (by simp [aftersOf, Region.binds])))
                    have hl1 := hq.now (ha 9 (by simp [aftersOf, Region.binds])) (by omega)
                    have hS := hq.2 hl1
                    have gg63 := slot_get g63
                    have gg51 := slot_get g51
                    have gw := slot_bool g51
                    rw [if_pos (by simp [Region.wanted, yielded, gw])]
                    clear gw
                    have kc := hS.cell (j + 1) hjk1
                    rw [HZ.out] at kc
                    have hF := hK (.int .i64 (Z : Int)) w' ⟨x, false, hxu, hv.step 22 64 _ (by simp), hq.still 22 (by omega) (.inr hl1)⟩
                    clear hv hq ha hK hA hli hS
                    go_simp
                    exact hF
                · clear hi; intro o ho lz fz w' A hJ hli ha hA K hK
                  obtain ⟨x, u, hxu, hv, hq⟩ := hJ
                  obtain rfl := Option.some.inj ho
                  clear ho
                  cases u
                  case true =>
                    simp only [cond_true, cond_false] at hv
                    have g51 := slot_in hA 51 (by decide) (by decide) (hv (9, 51, undef) (by simp) (ha 9 (by simp [aftersOf, Region.binds])))
                    have hl1 := hq.now (ha 9 (by simp [aftersOf, Region.binds])) (by omega)
                    have hS := hq.2 hl1
                    have gw := slot_no g51
                    rw [if_neg (by rcases gw with gw | gw <;> simp [Region.wanted, yielded, gw, undef])]
                    clear gw
                    exact hK undef w' ⟨x, true, hxu, hv.step 23 65 _ (by simp), hq.still 23 (by omega) (.inr hl1)⟩
                  case false =>
                    simp only [cond_true, cond_false] at hv
                    have g59 := slot_in hA 59 (by decide) (by decide) (hv (17, 59, (.slice (some ⟨gA, 0, none⟩) k cA)) (by simp) (ha 17 (by simp [aftersOf, Region.binds])))
                    have g64 := slot_in hA 64 (by decide) (by decide) (hv (22, 64, (.int .i64 (Z : Int))) (by simp) (ha 22 (by simp [aftersOf, Region.binds])))
                    have g51 := slot_in hA 51 (by decide) (by decide) (hv (9, 51, (.bool true)) (by simp) (ha 9 (by simp [aftersOf, Region.binds])))
                    have hl1 := hq.now (ha 9 (by simp [aftersOf, Region.binds])) (by omega)
                    have hS := hq.2 hl1
                    have gg59 := slot_get g59
                    have gg64 := slot_get g64
                    have gg51 := slot_get g51
                    have gw := slot_bool g51
                    rw [if_pos (by simp [Region.wanted, yielded, gw])]
                    clear gw
                    have hF := hK (.pointer (some ⟨gA, Z * 4, none⟩)) w' ⟨x, false, hxu, hv.step 23 65 _ (by simp), hq.still 23 (by omega) (.inr hl1)⟩
                    clear hv hq ha hK hA hli hS
                    go_simp
                    exact hF
                · clear hi; intro o ho lz fz w' A hJ hli ha hA K hK
                  obtain ⟨x, u, hxu, hv, hq⟩ := hJ
                  obtain rfl := Option.some.inj ho
                  clear ho
                  cases u
                  case true =>
                    simp only [cond_true, cond_false] at hv
                    have g51 := slot_in hA 51 (by decide) (by decide) (hv (9, 51, undef) (by simp) (ha 9 (by simp [aftersOf, Region.binds])))
                    have hl1 := hq.now (ha 9 (by simp [aftersOf, Region.binds])) (by omega)
                    have hS := hq.2 hl1
                    have gw := slot_no g51
                    rw [if_neg (by rcases gw with gw | gw <;> simp [Region.wanted, yielded, gw, undef])]
                    clear gw
                    exact hK undef w' ⟨x, true, hxu, hv.step 24 66 _ (by simp), hq.still 24 (by omega) (.inr hl1)⟩
                  case false =>
                    simp only [cond_true, cond_false] at hv
                    have g65 := slot_in hA 65 (by decide) (by decide) (hv (23, 65, (.pointer (some ⟨gA, Z * 4, none⟩))) (by simp) (ha 23 (by simp [aftersOf, Region.binds])))
                    have g51 := slot_in hA 51 (by decide) (by decide) (hv (9, 51, (.bool true)) (by simp) (ha 9 (by simp [aftersOf, Region.binds])))
                    have hl1 := hq.now (ha 9 (by simp [aftersOf, Region.binds])) (by omega)
                    have hS := hq.2 hl1
                    have gg65 := slot_get g65
                    have gg51 := slot_get g51
                    have gw := slot_bool g51
                    rw [if_pos (by simp [Region.wanted, yielded, gw])]
                    clear gw
                    obtain ⟨k0, k1, k2, k3⟩ := hS.2.2.2.1.cells (i := Z) hZk
                    rw [HLB.out] at k0 k1 k2 k3
                    rw [Nat.zero_add] at k0 k1 k2 k3
                    have hF := hK (.agg #[.int .i64 p2, .int .i64 q2, .int .i64 r2, .int .i64 t2]) w' ⟨x, false, hxu, hv.step 24 66 _ (by simp), hq.still 24 (by omega) (.inr hl1)⟩
                    clear hv hq ha hK hA hli hS
                    go_simp
                    exact hF
                · clear hi; intro o ho lz fz w' A hJ hli ha hA K hK
                  obtain ⟨x, u, hxu, hv, hq⟩ := hJ
                  obtain rfl := Option.some.inj ho
                  clear ho
                  cases u
                  case true =>
                    simp only [cond_true, cond_false] at hv
                    have g51 := slot_in hA 51 (by decide) (by decide) (hv (9, 51, undef) (by simp) (ha 9 (by simp [aftersOf, Region.binds])))
                    have hl1 := hq.now (ha 9 (by simp [aftersOf, Region.binds])) (by omega)
                    have hS := hq.2 hl1
                    have gw := slot_no g51
                    rw [if_neg (by rcases gw with gw | gw <;> simp [Region.wanted, yielded, gw, undef])]
                    clear gw
                    exact hK undef w' ⟨x, true, hxu, hv.step 25 67 _ (by simp), hq.still 25 (by omega) (.inr hl1)⟩
                  case false =>
                    simp only [cond_true, cond_false] at hv
                    have g58 := slot_in hA 58 (by decide) (by decide) (hv (16, 58, (.agg #[.int .i64 p, .int .i64 q, .int .i64 r, .int .i64 t])) (by simp) (ha 16 (by simp [aftersOf, Region.binds])))
                    have g66 := slot_in hA 66 (by decide) (by decide) (hv (24, 66, (.agg #[.int .i64 p2, .int .i64 q2, .int .i64 r2, .int .i64 t2])) (by simp) (ha 24 (by simp [aftersOf, Region.binds])))
                    have g51 := slot_in hA 51 (by decide) (by decide) (hv (9, 51, (.bool true)) (by simp) (ha 9 (by simp [aftersOf, Region.binds])))
                    have hl1 := hq.now (ha 9 (by simp [aftersOf, Region.binds])) (by omega)
                    have hS := hq.2 hl1
                    have gg58 := slot_get g58
                    have gg66 := slot_get g66
                    have gg51 := slot_get g51
                    have gw := slot_bool g51
                    rw [if_pos (by simp [Region.wanted, yielded, gw])]
                    clear gw
                    clear hA
                    go_simp
                    refine (conflict_spec p q r t p2 q2 r2 t2 _).mono ?_
                    rintro e w9 ⟨rfl, hb9⟩
                    rw [HU.out]
                    have hS9 := hS.below hb9
                    exact hK (.bool v) w9 ⟨x, false, hxu, hv.step 25 67 _ (by simp), PickW.call 25 (by omega) hl1 hS9⟩
                · clear hi; intro o ho lz fz w' A hJ hli ha hA K hK
                  obtain ⟨x, u, hxu, hv, hq⟩ := hJ
                  obtain rfl := Option.some.inj ho
                  clear ho
                  cases u
                  case true =>
                    simp only [cond_true, cond_false] at hv
                    have g51 := slot_in hA 51 (by decide) (by decide) (hv (9, 51, undef) (by simp) (ha 9 (by simp [aftersOf, Region.binds])))
                    have hl1 := hq.now (ha 9 (by simp [aftersOf, Region.binds])) (by omega)
                    have hS := hq.2 hl1
                    have gw := slot_no g51
                    rw [if_neg (by rcases gw with gw | gw <;> simp [Region.wanted, yielded, gw, undef])]
                    clear gw
                    exact hK undef w' ⟨x, true, hxu, hv.step 26 68 _ (by simp), hq.still 26 (by omega) (.inr hl1)⟩
                  case false =>
                    simp only [cond_true, cond_false] at hv
                    have g67 := slot_in hA 67 (by decide) (by decide) (hv (25, 67, (.bool v)) (by simp) (ha 25 (by simp [aftersOf, Region.binds])))
                    have g51 := slot_in hA 51 (by decide) (by decide) (hv (9, 51, (.bool true)) (by simp) (ha 9 (by simp [aftersOf, Region.binds])))
                    have hl1 := hq.now (ha 9 (by simp [aftersOf, Region.binds])) (by omega)
                    have hS := hq.2 hl1
                    have gg67 := slot_get g67
                    have gg51 := slot_get g51
                    have gw := slot_bool g51
                    rw [if_pos (by simp [Region.wanted, yielded, gw])]
                    clear gw
                    have hF := hK (.bool (!v)) w' ⟨x, false, hxu, hv.step 26 68 _ (by simp), hq.still 26 (by omega) (.inr hl1)⟩
                    clear hv hq ha hK hA hli hS
                    go_simp
                    exact hF
                · clear hi; intro o ho lz fz w' A hJ hli ha hA K hK
                  obtain ⟨x, u, hxu, hv, hq⟩ := hJ
                  obtain rfl := Option.some.inj ho
                  clear ho
                  cases u
                  case true =>
                    simp only [cond_true, cond_false] at hv
                    have g45 := slot_in hA 45 (by decide) (by decide) (hv (3, 45, (.bool true)) (by simp) (ha 3 (by simp [aftersOf, Region.binds])))
                    have hl1 := hq.now (ha 3 (by simp [aftersOf, Region.binds])) (by omega)
                    have hS := hq.2 hl1
                    have gg45 := slot_get g45
                    have gw := slot_bool g45
                    rw [if_neg (by simp [Region.wanted, yielded, gw])]
                    clear gw
                    exact hK undef w' ⟨x, true, hxu, hv.step 27 69 _ (by simp), hq.still 27 (by omega) (.inr hl1)⟩
                  case false =>
                    simp only [cond_true, cond_false] at hv
                    have g51 := slot_in hA 51 (by decide) (by decide) (hv (9, 51, (.bool true)) (by simp) (ha 9 (by simp [aftersOf, Region.binds])))
                    have g68 := slot_in hA 68 (by decide) (by decide) (hv (26, 68, (.bool (!v))) (by simp) (ha 26 (by simp [aftersOf, Region.binds])))
                    have g45 := slot_in hA 45 (by decide) (by decide) (hv (3, 45, (.bool false)) (by simp) (ha 3 (by simp [aftersOf, Region.binds])))
                    have hl1 := hq.now (ha 3 (by simp [aftersOf, Region.binds])) (by omega)
                    have hS := hq.2 hl1
                    have gg51 := slot_get g51
                    have gg68 := slot_get g68
                    have gg45 := slot_get g45
                    have gw := slot_bool g45
                    rw [if_pos (by simp [Region.wanted, yielded, gw])]
                    clear gw
                    have hF := hK (.bool (!v)) w' ⟨x, false, hxu, hv.step 27 69 _ (by simp), hq.still 27 (by omega) (.inr hl1)⟩
                    clear hv hq ha hK hA hli hS
                    go_simp
                    exact hF
                · clear hi; intro o ho lz fz w' A hJ hli ha hA K hK
                  obtain ⟨x, u, hxu, hv, hq⟩ := hJ
                  obtain rfl := Option.some.inj ho
                  clear ho
                  cases u
                  case true =>
                    simp only [cond_true, cond_false] at hv
                    have g45 := slot_in hA 45 (by decide) (by decide) (hv (3, 45, (.bool true)) (by simp) (ha 3 (by simp [aftersOf, Region.binds])))
                    have hl1 := hq.now (ha 27 (by simp [aftersOf, Region.binds])) (by omega)
                    have hS := hq.2 hl1
                    have gg45 := slot_get g45
                    rw [if_pos (by rfl)]
                    have hF := hK (.bool true) w' ⟨x, true, hxu, hv.step 28 70 _ (by simp), hq.still 28 (by omega) (.inr hl1)⟩
                    clear hv hq ha hK hA hli hS
                    go_simp
                    exact hF
                  case false =>
                    simp only [cond_true, cond_false] at hv
                    have g45 := slot_in hA 45 (by decide) (by decide) (hv (3, 45, (.bool false)) (by simp) (ha 3 (by simp [aftersOf, Region.binds])))
                    have g69 := slot_in hA 69 (by decide) (by decide) (hv (27, 69, (.bool (!v))) (by simp) (ha 27 (by simp [aftersOf, Region.binds])))
                    have hl1 := hq.now (ha 27 (by simp [aftersOf, Region.binds])) (by omega)
                    have hS := hq.2 hl1
                    have gg45 := slot_get g45
                    have gg69 := slot_get g69
                    rw [if_pos (by rfl)]
                    have hF := hK (.bool (!v)) w' ⟨x, false, hxu, hv.step 28 70 _ (by simp), hq.still 28 (by omega) (.inr hl1)⟩
                    clear hv hq ha hK hA hli hS
                    go_simp
                    exact hF
              · intro lz fz w5 hall hJ
                obtain ⟨x, u, hxu, hv, hq⟩ := hJ
                have hbR := hq.2 (hall 1 (by decide))
                obtain ⟨ub70, h70⟩ : ∃ ub : Bool, fz 70 = .bool ub := by
                  cases u
                  case true => exact ⟨_, hv (28, 70, (.bool true)) (by simp) (hall 28 (by decide))⟩
                  case false => exact ⟨_, hv (28, 70, (.bool (!v))) (by simp) (hall 28 (by decide))⟩
                clear hv hq hall
                simp only [mixF, List.contains_cons, List.contains_nil]
                go_simp
              -- END REGION
                have HB5 := Lib.hid hbR
                clear hbR
                clear HU hxu HLA HLB hS0 HD4
                have hc0 := HB5.out.cell j hjk
                have hc1 := HB5.out.cell (j + 1) hjk1
                rw [HY.out] at hc0
                rw [HZ.out] at hc1
                cases ub70 with
                | true =>
                  have hf0 := HB5.out.1.frozenAt j
                  have hf1 := HB5.out.1.frozenAt (j + 1)
                  have HDF := Lib.hid ((HB5.out.set j hjk (Z : Int) (by omega) hgA hRw).set (j + 1) hjk1 (Y : Int) (by omega) hgA hRw)
                  go_wp2
                  go_roundw
                  case rel => exact ⟨m - 1, _, by omega, by congr 1; omega, HDF.out.mono (by omega)⟩
                  case measure => simp [intOf]; omega
                | false =>
                  go_wp2
                  go_roundw
                  case rel => exact ⟨m - 1, X, by omega, by congr 1; omega, HB5.out.mono (by omega)⟩
                  case measure => simp [intOf]; omega
            · have hk2' : decide ((1 : Int) < (k : Int)) = false := by simp; omega
              go_wp2
              go_ret
              exact HD.out.out hn (by omega)
          · obtain rfl : m = 0 := by omega
            go_wp2
            go_ret
            exact HD.out.out hn (by omega)
end Go.Proofs.Ytfhbolpchmdaoaa

/- Texts of ours that stand together: DrawLay, DrawLays -/
import Derived.Test.YtcaombogffmopaaDrawS
import Derived.Test.YtcaombogffmopaaSpecF
/- The contract of the draw of layers. -/
namespace Go.Proofs.Ytcaombogffmopaa
open Go.RowKit
set_option linter.unusedVariables false
/-- At most q layers, of few writes. -/
def SmL (q : Nat) (L : List Lay) : Prop := L.length ≤ q ∧ ∀ x ∈ L, x.2.length ≤ 40
theorem SmL.nil (q : Nat) : SmL q [] := ⟨by simp, fun x hx => by cases hx⟩
theorem SmL.mono {q q' : Nat} {L : List Lay} (h : SmL q L) (hq : q ≤ q') : SmL q' L := ⟨Nat.le_trans h.1 hq, h.2⟩
theorem SmL.snoc {q : Nat} {L : List Lay} (h : SmL q L) (x : Lay) (hx : x.2.length ≤ 40) : SmL (q + 1) (L ++ [x]) :=
  ⟨by rw [List.length_append]; have := h.1; simp; omega, fun y hy => by
    rcases List.mem_append.1 hy with hy | hy
    · exact h.2 y hy
    · simp at hy; subst hy; exact hx⟩
theorem SmL.fork {q : Nat} {L : List Lay} (h : SmL q L) (n : Int) : SmL (q + 1) (forkM L n).1 := by
  rw [forkM_eq]
  split
  · split
    · exact h.snoc (n, []) (by simp)
    · exact h.mono (by omega)
  · exact SmL.nil _
theorem SmL.write {q : Nat} {L : List Lay} (h : SmL q L) (n key val : Int) : SmL q (layerWriteM L n key val).1 := by
  rw [layerWriteM_eq]
  split
  · rename_i hL
    split
    · rename_i hi
      simp only [Bool.and_eq_true] at hi
      obtain ⟨⟨h1, h2⟩, h3⟩ := hi
      have b1 := inB_true h1; have b2 := inB_true h2; have b3 := inB_true h3
      have hv := layersB_write hL b1.1 (by omega) b2.1 b2.2 b3.1 b3.2
      refine ⟨by rw [writeL_len]; exact h.1, fun x hx => ?_⟩
      obtain ⟨i, hi, rfl⟩ := List.getElem_of_mem hx
      have := wr_len ((writesB_ok _).2 (lay_wr hv i hi))
      rw [List.getD_eq_getElem?_getD, List.getElem?_eq_getElem hi] at this
      exact Nat.le_trans this (by omega)
    · exact h
  · exact SmL.nil _
theorem OwnL.upd {w w' : World} {B T R : Nat} {eL eE : TypeId} {v : Value} {L : List Lay} (h : OwnL w B T eL eE v L) (hu : Upd R w w') (hR : R < B) : OwnL w' B T eL eE v L :=
  h.turn (Turn.ofGrown (B := R) (T := R + 1) hu (fun k hk => by simp at hk; omega)) (.inr (.inl (by omega)))
theorem OwnL.now {w w' : World} {B T : Nat} {eL eE : TypeId} {v : Value} {L : List Lay} (h : OwnL w B w.heap.size eL eE v L) (hs : w.heap.size ≤ T) : OwnL w B T eL eE v L := h.mono (Nat.le_refl _) hs
theorem Rd.belowB {w w' : World} {R P B : Nat} (h : Rd w R P) (hb : Below B w w') (hR : R < B) : Rd w' R P := by
  obtain ⟨a, len, cap, z, p, ⟨h1, h2, h3, h4, h5, h6, h7, h8, h9, h10⟩, hp⟩ := h
  refine ⟨a, len, cap, z, p, ⟨(hb.cell (p := ⟨R, 0, none⟩) hR).trans h1, (hb.cell (p := ⟨R, 1, none⟩) hR).trans h2, (hb.frozen (p := ⟨R, 1, none⟩) hR).trans h3, h4, h5, h6, h7, h8, fun hl => ?_, h10⟩, hp⟩
  obtain ⟨b, off, he, hc⟩ := h9 hl
  refine ⟨b, off, he, fun i hi => (hb.cell (p := ⟨b, off + i, none⟩) ?_).trans (hc i hi)⟩
  have := h6 hl b off he
  show b < B
  omega
theorem Upd.belowB {w0 w w' : World} {R : Nat} (h : Upd R w0 w) (hb : Below w0.heap.size w w') : Upd R w0 w' :=
  ⟨hb.os.trans h.os, hb.tape.trans h.tape, hb.output.trans h.output, Nat.le_trans h.size hb.size, fun k hk hr => (hb.block k hk).trans (h.block k hk hr)⟩
/-- Drawn layers, of the call's own. -/
def DrawL (w : World) (R P c : Nat) (e : Ending) (w' : World) : Prop :=
  ∃ (v : Value) (L : List Lay), e = .returned v ∧ OwnL w' w.heap.size w'.heap.size 28 42 v L ∧ SmL 6 L ∧ Rd w' R (P + c) ∧ Upd R w w'
/-- Layers under way. -/
def LayAtK (w wr : World) (R P : Nat) (v : Value) (L : List Lay) : Prop := OwnL wr w.heap.size wr.heap.size 28 42 v L ∧ Rd wr R P ∧ Upd R w wr
theorem LayAtK.next {w wr w' : World} {R P P' : Nat} {v : Value} {L : List Lay} (h : LayAtK w wr R P v L) (hr : Rd w' R P') (hu : Upd R wr w') (hR : R < w.heap.size) : LayAtK w w' R P' v L :=
  ⟨(h.1.upd hu hR).mono (Nat.le_refl _) hu.size, hr, h.2.2.trans hu⟩
theorem LayAtK.now {w wr w' : World} {R P : Nat} {v v' : Value} {L L' : List Lay} (h : LayAtK w wr R P v L) (ho : OwnL w' wr.heap.size w'.heap.size 28 42 v' L') (hb : Below wr.heap.size wr w') (hs : w.heap.size ≤ wr.heap.size) : LayAtK w w' R P v' L' :=
  ⟨ho.mono hs (Nat.le_refl _), h.2.1.below hb, h.2.2.trans (Upd.ofBelow R hb)⟩
set_option maxRecDepth 100000 in
set_option maxHeartbeats 4000000 in
theorem l20Layers_any (R P : Nat) (n : Int) (w : World) (h : Rd w R P) (hP : P ≤ 800000) (hn0 : 0 ≤ n) (hn : n ≤ 1000) :
    Calls Try.prog 45 #[.pointer (some ⟨R, 0, none⟩), .int .i64 n] w (DrawL w R P 130) := by
  have hRw := h.lt
  have hnil : OwnL (w.alloc (.cells #[] 28)) w.heap.size (w.heap.size + 1) 28 42 (.slice (some ⟨w.heap.size, 0, none⟩) 0 0) [] := ownL_lit (Nat.le_refl _) (by omega)
  go_enter Try.func45, Try.ntmps45
  go_wp2_with fail
  refine (pick_pos R P 6 _ (h.alloc _) (by omega) (by omega) (by omega)).mono ?_; rintro e w1 ⟨x1, rfl, hx0, hx1, hr1, hu1⟩
  have hK : LayAtK w w1 R (P + 1) (.slice (some ⟨w.heap.size, 0, none⟩) 0 0) [] := ⟨(hnil.upd hu1 hRw).mono (Nat.le_refl _) (by have := hu1.size; simp at this; omega), hr1, ((Upd.refl R w).alloc _).trans hu1⟩
  obtain ⟨k0, hk0⟩ : ∃ k0 : Nat, x1 = (k0 : Int) := ⟨x1.toNat, by omega⟩
  subst hk0
  clear hu1 hnil h hr1
  go_wp2_with fail
  go_loopw [5, 6] (fun v i wr => ∃ (k : Nat) (L : List Lay), k ≤ 5 ∧ i = .int .i64 k ∧ LayAtK w wr R (P + 1 + 23 * (5 - k)) v L ∧ SmL (5 - k) L) (fun _ i _ => (intOf i).toNat)
  case atStart => exact ⟨k0, [], by omega, rfl, ⟨hK.1, hK.2.1.mono (by omega), hK.2.2⟩, SmL.nil _⟩
  case round =>
    clear hK hx0 hx1
    obtain ⟨k, L, hk, rfl, hla, hsm⟩ := hrel
    by_cases hlt : 0 < k
    · obtain ⟨a, c, rfl, hrow, -, -⟩ := rowL_of_own hla.1
      have hsz := hla.2.2.size
      have hlen := hsm.1
      obtain ⟨wo, hwo⟩ : ∃ wo, wo = wr := ⟨wr, rfl⟩
      subst hwo
      go_wp2_with fail
      refine (pick_pos R _ _ _ hla.2.1 (by omega) (by omega) (by omega)).mono ?_; rintro e w2 ⟨x2, rfl, hy0, hy1, hr2, hu2⟩
      have hla2 := hla.next hr2 hu2 hRw
      obtain ⟨a2, c2, hv2, hrow2, -, -⟩ := rowL_of_own hla2.1
      simp only [Value.slice.injEq, true_and] at hv2
      obtain ⟨rfl, rfl⟩ := hv2
      have hsz2 := hla2.2.2.size
      clear hla hrow hr2 hu2
      go_wp2_with fail
      refine (forkLayer_spec a _ c L _ _ hrow2 (WalkArith.wf_i64 (by omega))).mono ?_; rintro e w3 ⟨v3, rfl, ho3, hb3⟩
      have hla3 := hla2.now ho3 hb3 hsz2
      have hsm3 := hsm.fork (x2 - 1)
      obtain ⟨L3, hL3⟩ : ∃ L3, L3 = (forkM L (x2 - 1)).1 := ⟨_, rfl⟩
      rw [← hL3] at hla3 hsm3
      clear hla2 ho3 hb3 hrow2 hL3 hsm
      go_wp2_with fail
      refine (pick_pos R _ 4 _ hla3.2.1 (by omega) (by omega) (by omega)).mono ?_; rintro e w4 ⟨x4, rfl, hz0, hz1, hr4, hu4⟩
      have hla4 := hla3.next hr4 hu4 hRw
      obtain ⟨j0, hj0⟩ : ∃ j0 : Nat, x4 = (j0 : Int) := ⟨x4.toNat, by omega⟩
      subst hj0
      clear hla3 hr4 hu4
      go_wp2_with fail
      go_loopw [5, 7] (fun v i wr => ∃ (j : Nat) (L : List Lay), j ≤ 3 ∧ i = .int .i64 j ∧ LayAtK w wr R (P + 1 + 23 * (5 - k) + 2 + 7 * (3 - j)) v L ∧ SmL (5 - k + 1) L) (fun _ i _ => (intOf i).toNat)
      case atStart => exact ⟨j0, L3, by omega, rfl, ⟨hla4.1, hla4.2.1.mono (by omega), hla4.2.2⟩, hsm3⟩
      case round =>
        clear hla4 hsm3 hz0 hz1 hy0 hy1
        obtain ⟨j, L4, hj, rfl, hla, hsm⟩ := hrel
        by_cases hjlt : 0 < j
        · obtain ⟨a, c, rfl, hrow, -, -⟩ := rowL_of_own hla.1
          have hlen4 := hsm.1
          clear hrow
          go_wp2_with fail
          refine (pick_any R _ _ _ hla.2.1 (by omega) (by omega) (by omega)).mono ?_; rintro e w5 ⟨x5, rfl, hp0, hp1, hp2, hr5, hu5⟩
          have hla5 := hla.next hr5 hu5 hRw
          have hx5 : x5 ≤ 100 := by
            rcases Nat.eq_zero_or_pos L4.length with h | h
            · have := hp2 (by omega); omega
            · have := hp1 (by omega); omega
          clear hla hr5 hu5 hp1 hp2
          go_wp2_with fail
          refine (l20Key_any R _ _ hla5.2.1 (by omega)).mono ?_; rintro e w6 ⟨x6, rfl, hq0, hq1, hr6, hu6⟩
          have hla6 := hla5.next hr6 hu6 hRw
          clear hla5 hr6 hu6
          go_wp2_with fail
          refine (l20Value_any R _ _ hla6.2.1 (by omega)).mono ?_; rintro e w7 ⟨x7, rfl, hs0, hs1, hr7, hu7⟩
          have hla7 := hla6.next hr7 hu7 hRw
          clear hla6 hr7 hu7
          obtain ⟨a2, c2, hv2, hrow2, -, -⟩ := rowL_of_own hla7.1
          simp only [Value.slice.injEq, true_and] at hv2
          obtain ⟨rfl, rfl⟩ := hv2
          have hsz7 := hla7.2.2.size
          go_wp2_with fail
          refine (layerWrite_spec a _ c L4 x5 x6 x7 _ hrow2).mono ?_; rintro e w8 ⟨v8, rfl, ho8, hb8⟩
          have hla8 := hla7.now ho8 hb8 hsz7
          have hsm8 := hsm.write x5 x6 x7
          obtain ⟨L8, hL8⟩ : ∃ L8, L8 = (layerWriteM L4 x5 x6 x7).1 := ⟨_, rfl⟩
          rw [← hL8] at hla8 hsm8
          clear hla7 ho8 hb8 hrow2 hL8 hsm
          have HL8 := Lib.hid hla8
          clear hla8
          go_wp2
          go_roundw
          case rel => exact ⟨j - 1, L8, by omega, by congr 1; omega, ⟨HL8.out.1, HL8.out.2.1.mono (by omega), HL8.out.2.2⟩, hsm8⟩
          case measure => simp [intOf]; omega
        · obtain rfl : j = 0 := by omega
          have HL := Lib.hid hla
          clear hla
          go_wp2
          go_roundw
          case rel => exact ⟨k - 1, L4, by omega, by congr 1; omega, ⟨HL.out.1, HL.out.2.1.mono (by omega), HL.out.2.2⟩, hsm.mono (by omega)⟩
          case measure => simp [intOf]; omega
    · obtain rfl : k = 0 := by omega
      have HX := hsm.1
      clear hlt
      go_wp2_with fail
      refine (odd_any R _ n _ hla.2.1 (by omega) (by omega) hn0).mono ?_; rintro e w2 ⟨ob, rfl, hr2, hu2⟩
      have hla2 := hla.next hr2 hu2 hRw
      clear hla hr2 hu2
      cases ob with
      | false =>
        have HL := Lib.hid hla2
        clear hla2
        go_wp2
        go_ret
        exact ⟨_, L, rfl, HL.out.1, hsm.mono (by omega), HL.out.2.1.mono (by omega), HL.out.2.2⟩
      | true =>
        go_wp2_with fail
        refine (pick_pos R _ 3 _ hla2.2.1 (by omega) (by omega) (by omega)).mono ?_; rintro e w3 ⟨x3, rfl, hz0, hz1, hr3, hu3⟩
        have hla3 := hla2.next hr3 hu3 hRw
        clear hla2 hr3 hu3
        rcases (by omega : x3 = 0 ∨ x3 = 1 ∨ x3 = 2) with rfl | rfl | rfl
        · obtain ⟨a, c, rfl, hrow, -, -⟩ := rowL_of_own hla3.1
          have hsz3 := hla3.2.2.size
          clear hrow
          go_wp2_with fail
          refine (pick_pos R _ 2 _ (hla3.2.1.alloc _) (by omega) (by omega) (by omega)).mono ?_; rintro e w4 ⟨x4, rfl, hq0, hq1, hr4, hu4⟩
          have hRb := hla3.2.1.lt
          have hcell : ∃ y, w4.cell? ⟨w3.heap.size, x4.toNat, none⟩ = some (.int .i64 y) ∧ -2 ≤ y ∧ y ≤ 50 := by
            rcases (by omega : x4 = 0 ∨ x4 = 1) with rfl | rfl <;> exact ⟨_, hu4.cell (by simp [go_sem]; rfl) (by omega), by omega, by omega⟩
          obtain ⟨y, hy, hy2, hy3⟩ := hcell
          have hu4' : Upd R w3 w4 := ((Upd.refl R w3).alloc _).trans hu4
          have hla4 := hla3.next hr4 hu4' hRw
          have hs34 := hu4'.size
          obtain ⟨⟨ho0, xs, hox⟩, hrd, hup⟩ := hla4
          have hyw : (Lit.int .i64 y).wf = true := WalkArith.wf_i64 (by omega)
          have HYW := Lib.hid hyw
          have hsz4 := hup.size
          clear hla3 hr4 hu4 hu4' hyw
          go_wp2_with (at_builtin; refine wpList_append_el rfl _ _ 23 rfl w.heap.size w4.heap.size 28 _ (.agg #[.int .i64 0, .slice none 0 0]) 2 32 Try.underlying23 infoLayS rfl (by decide) _ _ _ xs (layC 42 (y, [])) [.int .i64 y, .slice none 0 0] (by rfl) hox (by rfl) rfl rfl (layC_newS _ _ HYW.out _) (apart_two _ _) (by omega) (by decide) ?c2 ?c3 ?c4 ?_)
          case c2 => exact hsz4
          case c3 => exact hsz4
          case c4 => exact Nat.le_refl _
          intro v5 w5 xs5 ho5 hnn hb5 hz5
          have hfin : OwnL w5 w.heap.size w5.heap.size 28 42 v5 (L ++ [(y, [])]) := ⟨by simp; omega, xs5, by rw [layC_app, List.length_append]; exact ho5⟩
          have HF := Lib.hid hfin
          have HR := Lib.hid (Rd.belowB (hrd) hb5 hRw)
          have HU := Lib.hid (Upd.belowB (hup) hb5)
          clear ho5 hnn hb5 hfin
          go_wp2
          go_ret
          exact ⟨_, _, rfl, HF.out, hsm.snoc _ (by simp), HR.out.mono (by omega), HU.out⟩
        · obtain ⟨⟨ho0, xs, hox⟩, hrd, hup⟩ := hla3
          have hsz3 := hup.size
          have hox1 := hox.alloc (.cells #[.int .i64 3, .int .i64 1, .int .i64 3, .int .i64 1] 42)
          have hlit : (w3.alloc (.cells #[.int .i64 3, .int .i64 1, .int .i64 3, .int .i64 1] 42)).ownsRow w3.heap.size 42 2 (.slice (some ⟨w3.heap.size, 0, none⟩) 2 2) [((3 : Int), (1 : Int)), (3, 1)].length (flatE [((3 : Int), (1 : Int)), (3, 1)]) := (own_lit 42 2 #[.int .i64 3, .int .i64 1, .int .i64 3, .int .i64 1] 2 (Nat.le_refl _) (by unfold maxLen; omega) rfl).1
          have HLT := Lib.hid hlit
          clear hlit
          go_wp2_with (at_builtin; refine wpList_append_el (W := w3.alloc (.cells #[.int .i64 3, .int .i64 1, .int .i64 3, .int .i64 1] 42)) rfl _ _ 23 rfl w.heap.size w3.heap.size 28 _ (.agg #[.int .i64 0, .slice none 0 0]) 2 32 Try.underlying23 infoLayS rfl (by decide) _ _ _ xs (layC 42 (-1, [(3, 1), (3, 1)])) [.int .i64 (-1), .slice (some ⟨w3.heap.size, 0, none⟩) 2 2] (by rfl) hox1 (by simp [Act.eval]) rfl rfl (layC_els _ (-1) _ [(3, 1), (3, 1)] _ (by decide) HLT.out (by intro e he; simp at he; subst he; exact ⟨by decide, by decide⟩) (by simp)) (apart_two _ _) (by omega) (by decide) ?c2 ?c3 ?c4 ?_)
          case c2 => simp; omega
          case c3 => exact hsz3
          case c4 => simp
          intro v5 w5 xs5 ho5 hnn hb5 hz5
          have hfin : OwnL w5 w.heap.size w5.heap.size 28 42 v5 (L ++ [(-1, [(3, 1), (3, 1)])]) := ⟨by simp; omega, xs5, by rw [layC_app, List.length_append]; exact ho5⟩
          have HF := Lib.hid hfin
          have HR := Lib.hid (Rd.belowB (hrd.alloc _) hb5 hRw)
          have HU := Lib.hid (Upd.belowB (hup.alloc _) hb5)
          clear ho5 hnn hb5 hfin
          go_wp2
          go_ret
          exact ⟨_, _, rfl, HF.out, hsm.snoc _ (by simp), HR.out.mono (by omega), HU.out⟩
        · obtain ⟨⟨ho0, xs, hox⟩, hrd, hup⟩ := hla3
          have hsz3 := hup.size
          have hox1 := hox.alloc (.cells #[.int .i64 3, .int .i64 (-1)] 42)
          have hlit : (w3.alloc (.cells #[.int .i64 3, .int .i64 (-1)] 42)).ownsRow w3.heap.size 42 2 (.slice (some ⟨w3.heap.size, 0, none⟩) 1 1) [((3 : Int), (-1 : Int))].length (flatE [((3 : Int), (-1 : Int))]) := (own_lit 42 2 #[.int .i64 3, .int .i64 (-1)] 1 (Nat.le_refl _) (by unfold maxLen; omega) rfl).1
          have HLT := Lib.hid hlit
          clear hlit
          go_wp2_with (at_builtin; refine wpList_append_el (W := w3.alloc (.cells #[.int .i64 3, .int .i64 (-1)] 42)) rfl _ _ 23 rfl w.heap.size w3.heap.size 28 _ (.agg #[.int .i64 0, .slice none 0 0]) 2 32 Try.underlying23 infoLayS rfl (by decide) _ _ _ xs (layC 42 (-1, [(3, -1)])) [.int .i64 (-1), .slice (some ⟨w3.heap.size, 0, none⟩) 1 1] (by rfl) hox1 (by simp [Act.eval]) rfl rfl (layC_els _ (-1) _ [(3, -1)] _ (by decide) HLT.out (by intro e he; simp at he; subst he; exact ⟨by decide, by decide⟩) (by simp)) (apart_two _ _) (by omega) (by decide) ?c2 ?c3 ?c4 ?_)
          case c2 => simp; omega
          case c3 => exact hsz3
          case c4 => simp
          intro v5 w5 xs5 ho5 hnn hb5 hz5
          have hfin : OwnL w5 w.heap.size w5.heap.size 28 42 v5 (L ++ [(-1, [(3, -1)])]) := ⟨by simp; omega, xs5, by rw [layC_app, List.length_append]; exact ho5⟩
          have HF := Lib.hid hfin
          have HR := Lib.hid (Rd.belowB (hrd.alloc _) hb5 hRw)
          have HU := Lib.hid (Upd.belowB (hup.alloc _) hb5)
          clear ho5 hnn hb5 hfin
          go_wp2
          go_ret
          exact ⟨_, _, rfl, HF.out, hsm.snoc _ (by simp), HR.out.mono (by omega), HU.out⟩
end Go.Proofs.Ytcaombogffmopaa
/- The contracts of the draws of chapter 4. -/
namespace Go.Proofs.Ytcaombogffmopaa
open Go.RowKit
set_option linter.unusedVariables false
theorem results_four {fn : Func} {t u v x : Tmp} (h : fn.results = #[.tmp t, .tmp u, .tmp v, .tmp x]) (tmps : Array Value) (P : Program) (w : World) :
    (results fn tmps).run P w = .ok (.tuple #[tmps.getD t undef, tmps.getD u undef, tmps.getD v undef, tmps.getD x undef]) w := by simp [results, h]
/-- A slice that reads as few layers. -/
def FewL (w : World) (v : Value) (L : List Lay) : Prop := ∃ a cap, v = .slice a L.length cap ∧ RowL w a L.length L ∧ (a = none → cap = 0) ∧ L.length ≤ cap ∧ SmL 20 L
theorem FewL.below {w w' : World} {v : Value} {L : List Lay} (h : FewL w v L) (hb : Below w.heap.size w w') : FewL w' v L := by
  obtain ⟨a, cap, h1, h2, h3⟩ := h; exact ⟨a, cap, h1, h2.below hb, h3⟩
theorem fewL_of_own {w : World} {B T : Nat} {eL eE : TypeId} {v : Value} {L : List Lay} (h : OwnL w B T eL eE v L) (hs : SmL 20 L) : FewL w v L := by
  obtain ⟨a, cap, h1, h2, h3, h4⟩ := rowL_of_own h; exact ⟨a, cap, h1, h2, h3, h4, hs⟩
/-- A slice that reads as few entries. -/
def FewE (w : World) (v : Value) (S : List Ent) : Prop := ∃ g cap, v = .slice (some ⟨g, 0, none⟩) S.length cap ∧ RowE w (some ⟨g, 0, none⟩) S.length S ∧ S.length ≤ 1000
/-- Drawn layers. -/
def LaysD (w : World) (e : Ending) (w' : World) : Prop := ∃ v L, e = .returned v ∧ FewL w' v L ∧ Below w.heap.size w w'
/-- .. and a number. -/
def LaysID (w : World) (e : Ending) (w' : World) : Prop := ∃ v L n, e = .returned (.tuple #[v, .int .i64 n]) ∧ FewL w' v L ∧ -10 ≤ n ∧ n ≤ 100 ∧ Below w.heap.size w w'
/-- .. and three. -/
def LaysIIID (w : World) (e : Ending) (w' : World) : Prop := ∃ v L n key val, e = .returned (.tuple #[v, .int .i64 n, .int .i64 key, .int .i64 val]) ∧ FewL w' v L ∧ -10 ≤ n ∧ n ≤ 100 ∧ -10 ≤ key ∧ key ≤ 100 ∧ -10 ≤ val ∧ val ≤ 1000010 ∧ Below w.heap.size w w'
/-- A store, layers and two numbers. -/
def StLaysIID (w : World) (e : Ending) (w' : World) : Prop := ∃ s S v L n key, e = .returned (.tuple #[s, v, .int .i64 n, .int .i64 key]) ∧ FewE w' s S ∧ FewL w' v L ∧ -10 ≤ n ∧ n ≤ 100 ∧ 0 ≤ key ∧ key ≤ 31 ∧ Below w.heap.size w w'
/-- A store, layers and a number. -/
def StLaysID (w : World) (e : Ending) (w' : World) : Prop := ∃ s S v L n, e = .returned (.tuple #[s, v, .int .i64 n]) ∧ FewE w' s S ∧ FewL w' v L ∧ -10 ≤ n ∧ n ≤ 100 ∧ Below w.heap.size w w'
theorem drawLayersValid_any (a : Option Addr) (len cap : Nat) (z : List Int) (w : World) (h : RowB w a len z) (hlc : len ≤ cap) :
    Calls Try.prog 13 #[.slice a len cap] w (LaysD w) := by
  go_enter Try.func13, Try.ntmps13
  go_wp2_with fail
  refine (open_any a len cap z w h hlc).mono ?_; rintro e w1 ⟨R, rfl, hR, hr, hb, hRlt⟩
  go_wp2_with fail
  refine (l20Layers_any R 0 2 _ hr (by omega) (by omega) (by omega)).mono ?_; rintro e w2 ⟨v, L, rfl, hown, hsm, hr2, hu2⟩
  go_wp2
  go_ret
  exact ⟨v, L, rfl, fewL_of_own hown (hsm.mono (by omega)), hu2.below hb hb.size hR⟩
set_option maxHeartbeats 1000000 in
theorem drawLayerRead_any (a : Option Addr) (len cap : Nat) (z : List Int) (w : World) (h : RowB w a len z) (hlc : len ≤ cap) :
    Calls Try.prog 17 #[.slice a len cap] w (StLaysIID w) := by
  go_enter Try.func17, Try.ntmps17
  go_wp2_with fail
  refine (open_any a len cap z w h hlc).mono ?_; rintro e w1 ⟨R, rfl, hR, hr, hb, hRlt⟩
  go_wp2_with fail
  refine (l20Store_any R 0 14 _ hr (by omega) (by omega) (by omega)).mono ?_; rintro e w2 ⟨s, S, rfl, ho, hwf, hlen, hr2, hu2⟩
  have hb2 := hu2.below hb hb.size hR
  go_wp2_with fail
  refine (l20Layers_any R _ 14 _ hr2 (by omega) (by omega) (by omega)).mono ?_; rintro e w3 ⟨v, L, rfl, hown, hsm, hr3, hu3⟩
  have hb3 := hu3.below hb2 hb2.size hR
  have ho3 := ho.upd hu3 (by omega)
  have hlL := hsm.1
  have hR2 : R < w2.heap.size := hr2.lt
  clear hr hr2 hu2 hu3 hb hb2 ho
  obtain ⟨av, cv, rfl, -, -, -⟩ := rowL_of_own hown
  go_wp2_with fail
  refine (pick_pos R _ _ _ hr3 (by omega) (by omega) (by omega)).mono ?_; rintro e w4 ⟨x4, rfl, hx0, hx1, hr4, hu4⟩
  have hb4 := hu4.below hb3 hb3.size hR
  have ho4 := ho3.upd hu4 (by omega)
  have hown4 := hown.upd hu4 hR2
  clear hr3 hu4 hb3 ho3 hown
  go_wp2_with fail
  refine (pick_pos R _ 12 _ hr4 (by omega) (by omega) (by omega)).mono ?_; rintro e w5 ⟨x5, rfl, hy0, hy1, hr5, hu5⟩
  have hb5 := hu5.below hb4 hb4.size hR
  have ho5 := ho4.upd hu5 (by omega)
  have hown5 := hown4.upd hu5 hR2
  clear hr4 hu5 hb4 ho4 hown4
  go_wp2_with fail
  refine (l20Key_any R _ _ hr5 (by omega)).mono ?_; rintro e w6 ⟨x6, rfl, hz0, hz1, hr6, hu6⟩
  have hb6 := hu6.below hb5 hb5.size hR
  have ho6 := ho5.upd hu6 (by omega)
  have hown6 := hown5.upd hu6 hR2
  obtain ⟨g, c, rfl, -, hrow⟩ := rowE_of_own ho6 (by omega) hwf
  have HF := Lib.hid (show FewE w6 (.slice (some ⟨g, 0, none⟩) S.length c) S from ⟨g, c, rfl, hrow, hlen⟩)
  have HL := Lib.hid (fewL_of_own hown6 (hsm.mono (show 6 ≤ 20 by omega)))
  clear hr5 hu6 hb5 ho5 hown5 hown6 ho6 hrow
  go_wp2
  refine bodyPost_ret (results_four rfl _ _ _) rfl ?_
  exact ⟨_, S, _, L, x4 - 1 - x5 / 11, x6, rfl, HF.out, HL.out, by omega, by omega, hz0, hz1, hb6⟩
theorem drawLayerStore_any (a : Option Addr) (len cap : Nat) (z : List Int) (w : World) (h : RowB w a len z) (hlc : len ≤ cap) :
    Calls Try.prog 30 #[.slice a len cap] w (StLaysID w) := by
  go_enter Try.func30, Try.ntmps30
  go_wp2_with fail
  refine (drawLayerRead_any a len cap z _ h hlc).mono ?_; rintro e w1 ⟨s, S, v, L, n, key, rfl, h1, h2, h3, h4, h5, h6, hb⟩
  go_wp2
  go_ret3
  exact ⟨s, S, v, L, n, rfl, h1, h2, h3, h4, hb⟩
set_option maxHeartbeats 1000000 in
theorem drawLayerWrite_any (a : Option Addr) (len cap : Nat) (z : List Int) (w : World) (h : RowB w a len z) (hlc : len ≤ cap) :
    Calls Try.prog 27 #[.slice a len cap] w (LaysIIID w) := by
  go_enter Try.func27, Try.ntmps27
  go_wp2_with fail
  refine (open_any a len cap z w h hlc).mono ?_; rintro e w1 ⟨R, rfl, hR, hr, hb, hRlt⟩
  go_wp2_with fail
  refine (l20Layers_any R 0 9 _ hr (by omega) (by omega) (by omega)).mono ?_; rintro e w2 ⟨v, L, rfl, hown, hsm, hr2, hu2⟩
  have hb2 := hu2.below hb hb.size hR
  have hlL := hsm.1
  clear hr hu2 hb
  obtain ⟨av, cv, rfl, -, -, -⟩ := rowL_of_own hown
  go_wp2_with fail
  refine (pick_pos R _ _ _ hr2 (by omega) (by omega) (by omega)).mono ?_; rintro e w3 ⟨x3, rfl, hx0, hx1, hr3, hu3⟩
  have hb3 := hu3.below hb2 hb2.size hR
  have hown3 := hown.upd hu3 hRlt
  clear hr2 hu3 hb2 hown
  go_wp2_with fail
  refine (pick_pos R _ 9 _ hr3 (by omega) (by omega) (by omega)).mono ?_; rintro e w4 ⟨x4, rfl, hy0, hy1, hr4, hu4⟩
  have hb4 := hu4.below hb3 hb3.size hR
  have hown4 := hown3.upd hu4 hRlt
  clear hr3 hu4 hb3 hown3
  go_wp2_with fail
  refine (l20Key_any R _ _ hr4 (by omega)).mono ?_; rintro e w5 ⟨x5, rfl, hz0, hz1, hr5, hu5⟩
  have hb5 := hu5.below hb4 hb4.size hR
  have hown5 := hown4.upd hu5 hRlt
  clear hr4 hu5 hb4 hown4
  go_wp2_with fail
  refine (pick_pos R _ 9 _ hr5 (by omega) (by omega) (by omega)).mono ?_; rintro e w6 ⟨x6, rfl, hp0, hp1, hr6, hu6⟩
  have hb6 := hu6.below hb5 hb5.size hR
  have hown6 := hown5.upd hu6 hRlt
  clear hr5 hu6 hb5 hown5
  go_wp2_with fail
  refine (l20Value_any R _ _ hr6 (by omega)).mono ?_; rintro e w7 ⟨x7, rfl, hq0, hq1, hr7, hu7⟩
  have hb7 := hu7.below hb6 hb6.size hR
  have hown7 := hown6.upd hu7 hRlt
  clear hr6 hu7 hb6 hown6
  go_wp2_with fail
  refine (pick_pos R _ 12 _ hr7 (by omega) (by omega) (by omega)).mono ?_; rintro e w8 ⟨x8, rfl, hs0, hs1, hr8, hu8⟩
  have hb8 := hu8.below hb7 hb7.size hR
  have hown8 := hown7.upd hu8 hRlt
  have HL := Lib.hid (fewL_of_own hown8 (hsm.mono (show 6 ≤ 20 by omega)))
  clear hr7 hu8 hb7 hown7 hown8
  go_wp2
  refine bodyPost_ret (results_four rfl _ _ _) rfl ?_
  exact ⟨_, L, x3 - x4 / 8, x5 + x6 / 8 * 30, x7 - x8 / 11, rfl, HL.out, by omega, by omega, by omega, by omega, by omega, by omega, hb8⟩
/-- Twenty layers, of which the first k lie over the store. -/
def mkB (k : Nat) : List Lay := List.replicate k ((-1 : Int), ([] : List Ent)) ++ List.replicate (20 - k) (0, [])
theorem mkB_len (k : Nat) (h : k ≤ 20) : (mkB k).length = 20 := by simp [mkB]; omega
theorem mkB_set (k : Nat) (h : k < 20) : (mkB k).set k (-1, ((mkB k).getD k (0, [])).2) = mkB (k + 1) := by
  have e : (mkB k).getD k (0, []) = (0, []) := by
    unfold mkB
    rw [List.getD_eq_getElem?_getD, List.getElem?_append_right (by simp)]
    rw [List.length_replicate, Nat.sub_self, List.getElem?_replicate, if_pos (by omega)]; rfl
  rw [e]
  unfold mkB
  rw [List.set_append_right _ _ (by simp), List.length_replicate, Nat.sub_self, show 20 - k = (20 - (k + 1)) + 1 by omega, List.replicate_succ, List.set_cons_zero, List.replicate_succ', List.append_assoc]
  rfl
theorem mkB_sm (k : Nat) (h : k ≤ 20) : SmL 20 (mkB k) := ⟨by rw [mkB_len k h]; exact Nat.le_refl _, fun x hx => by
  unfold mkB at hx
  rcases List.mem_append.1 hx with h | h <;> (have := List.eq_of_mem_replicate h; subst this; simp)⟩
set_option maxRecDepth 100000 in
set_option maxHeartbeats 1000000 in
theorem drawForkLayer_any (a : Option Addr) (len cap : Nat) (z : List Int) (w : World) (h : RowB w a len z) (hlc : len ≤ cap) :
    Calls Try.prog 22 #[.slice a len cap] w (LaysID w) := by
  obtain ⟨i0, hi, hz0, hz1, hz2⟩ := info_parts infoLayS
  go_enter Try.func22, Try.ntmps22
  go_wp2_with fail
  refine (open_any a len cap z w h hlc).mono ?_; rintro e w1 ⟨R, rfl, hR, hr, hb, hRlt⟩
  go_wp2_with fail
  refine (l20Layers_any R 0 9 _ hr (by omega) (by omega) (by omega)).mono ?_; rintro e w2 ⟨v, L, rfl, hown, hsm, hr2, hu2⟩
  have hb2 := hu2.below hb hb.size hR
  have hs12 := hu2.size
  have hlL := hsm.1
  clear hr hu2 hb
  go_wp2_with fail
  refine (odd_any R _ 9 _ hr2 (by omega) (by omega) (by omega)).mono ?_; rintro e w3 ⟨ob, rfl, hr3, hu3⟩
  have hb3 := hu3.below hb2 hb2.size hR
  have hown3 := hown.upd hu3 hRlt
  have hs23 := hu3.size
  clear hr2 hu3 hb2 hown
  cases ob with
  | false =>
    obtain ⟨av, cv, rfl, -, -, -⟩ := rowL_of_own hown3
    clear hi hz0 hz1 hz2
    go_wp2_with fail
    refine (pick_pos R _ _ _ hr3 (by omega) (by omega) (by omega)).mono ?_; rintro e w4 ⟨x4, rfl, hx0, hx1, hr4, hu4⟩
    have hb4 := hu4.below hb3 hb3.size hR
    have HL := Lib.hid (fewL_of_own (hown3.upd hu4 hRlt) (hsm.mono (show 6 ≤ 20 by omega)))
    clear hr3 hu4 hb3 hown3
    go_wp2
    go_ret2
    exact ⟨_, L, x4 - 1, rfl, HL.out, by omega, by omega, hb4⟩
  | true =>
    clear hown3
    go_wp2_with (first | (at_make; refine wpList_make_full _ rfl (.const (.int .i64 20)) (.const (.int .i64 20)) 23 rfl w3.heap.size 28 i0 (.agg #[.int .i64 0, .slice none 0 0]) 2 Try.underlying23 hi hz0 hz1 .i64 .i64 20 20 20 rfl rfl rfl rfl (by rw [hz2]; omega) (by unfold maxLen; omega) (Nat.le_refl _) ?_; intro w4 hown hgrow; clear hi hz0 hz1 hz2))
    have hb4 : Below w.heap.size w w4 := hb3.grown hgrow hb3.size (fun k hk => by simp at hk)
    have hg4 : w3.heap.size < w4.heap.size := (hown.lt w3.heap.size rfl).2
    have ho4 := own2_made (T := w4.heap.size) (.int .i64 0) (.slice none 0 0) (.int 0) (.ents 42 []) (layC 42) (0, []) rfl hown (fun b hb => by simp [blk] at hb; omega) ⟨rfl, by decide⟩ (ents_nil _ _) rfl rfl (layC_len _)
    have hm0 : OwnL w4 w3.heap.size w4.heap.size 28 42 (.slice (some ⟨w3.heap.size, 0, none⟩) 20 20) (mkB 0) := ⟨by simp [mkB], _, ho4⟩
    have hr4 : Rd w4 R (0 + 130 + 1) := hr3.grown hgrow (fun k hk => by cases hk)
    have hR3 : R < w3.heap.size := hr3.lt
    clear ho4 hown hgrow hb3 hr3
    go_loopw [6] (fun i wr => ∃ k : Nat, k ≤ 20 ∧ i = .int .i64 k ∧ OwnL wr w3.heap.size w4.heap.size 28 42 (.slice (some ⟨w3.heap.size, 0, none⟩) 20 20) (mkB k) ∧ Turn w3.heap.size w4.heap.size w4 wr) (fun i _ => 20 - (intOf i).toNat)
    case atStart => exact ⟨0, by omega, rfl, hm0, Turn.refl _ _ _⟩
    case round =>
      clear hm0
      obtain ⟨k, hk, rfl, hO, ht⟩ := hrel
      by_cases hlt : k < 20
      · have hjM : k < (mkB k).length := by rw [mkB_len k hk]; exact hlt
        obtain ⟨-, x0, y0, hx0, -, hf0, -, hgw, -, -⟩ := hO.cell k hjM
        have hO1 := hO.setInt k hjM (-1) (by decide)
        rw [mkB_set k hlt] at hO1
        have HO := Lib.hid hO1
        have HT := Lib.hid (ht.setCell (g := w3.heap.size) ⟨Nat.le_refl _, hg4⟩ (k * 2) (.int .i64 (-1)))
        clear hO hO1 ht
        go_wp2
        go_roundw
        case rel => exact ⟨k + 1, by omega, by go_num, HO.out, HT.out⟩
        case measure => simp [intOf]; omega
      · obtain rfl : k = 20 := by omega
        have hrr : Rd wr R (0 + 130 + 1) := hr4.belowB ⟨ht.os, ht.tape, ht.output, ht.size, fun q hq => ht.block q (by omega) (.inl hq)⟩ hR3
        have hbr : Below w.heap.size w wr := ht.below hb4 (by omega) (by have := hb4.size; omega)
        clear ht hr4 hb4
        go_wp2_with fail
        refine (pick_pos R _ _ _ hrr (by omega) (by omega) (by omega)).mono ?_; rintro e w5 ⟨x5, rfl, hx0, hx1, hr5, hu5⟩
        have hb5 := hu5.below hbr hbr.size hR
        have HL := Lib.hid (fewL_of_own (hO.upd hu5 hR3) (mkB_sm 20 (Nat.le_refl _)))
        have HLN : Hid ((mkB 20).length = 20) := Lib.hid (mkB_len 20 (Nat.le_refl _))
        clear hrr hu5 hbr hO
        go_wp2
        go_ret2
        exact ⟨_, mkB 20, x5 - 1, rfl, HL.out, by omega, by omega, hb5⟩
end Go.Proofs.Ytcaombogffmopaa

/- The contract of the model's ApplyEffect. -/
import Derived.Test.YtpnahncmhldgdaaEffMem
import Derived.Test.YtpnahncmhldgdaaSpecF
import Derived.Test.YtpnahncmhldgdaaTwo
import Derived.Deep.RegionHeld3
namespace Go.Proofs.Ytpnahncmhldgdaa
open Go.RowKit
set_option linter.unusedVariables false
theorem infoEntA : (Try.prog.info? 70).map (fun i => (i.zero, i.size, i.bytes)) = some (some (.agg #[.int .i64 0, .int .i64 0]), 2, 16) := by kernel_rfl
theorem below_cg {B G o : Nat} {w w' : World} {v : Value} (hb : Below B w w') (hG : G < B) (hc : w.cell? ⟨G, o, none⟩ = some v) : w'.cell? ⟨G, o, none⟩ = some v := (hb.cell (p := ⟨G, o, none⟩) hG).trans hc
theorem wfE_putRaw {l : List Ent} {key val : Int} (h : Ok l) (k0 : 0 ≤ key) (k1 : key ≤ 31) (v0 : 0 ≤ val) (v1 : val ≤ 1000000) : WfE (putRaw key val l) := fun e he => by
  have := (ok_put h k0 k1 v0 v1).2 e he
  exact ⟨WalkArith.wf_i64 (by omega), WalkArith.wf_i64 (by omega)⟩
theorem rowE_apart {w w' : World} {a : Option Addr} {n : Nat} {row : Option Nat} {l : List Ent} (h : RowE w a n l) (hg : w.grownBy w' row) (hne : 0 < n → ∀ b o, a = some ⟨b, o, none⟩ → some b ≠ row) : RowE w' a n l := by
  obtain ⟨h1, h2, h3, h4⟩ := h
  refine ⟨h1, h2, fun hl => ?_, h4⟩
  obtain ⟨b, off, he, hc⟩ := h3 hl
  exact ⟨b, off, he, fun i hi => ⟨hg.cell (hc i hi).1 (hne hl b off he), hg.cell (hc i hi).2 (hne hl b off he)⟩⟩
theorem rowE_lt {w : World} {a : Option Addr} {n : Nat} {l : List Ent} (h : RowE w a n l) (h0 : 0 < n) (b o : Nat) (he : a = some ⟨b, o, none⟩) : b < w.heap.size := by
  obtain ⟨b', o', he', hc⟩ := h.2.2.1 h0
  rw [he] at he'; simp only [Option.some.injEq, Addr.mk.injEq] at he'
  rw [he'.1]; exact World.block_lt_of_cell? w ⟨b', o' + 0 * 2, none⟩ (hc 0 h0).1
set_option maxRecDepth 100000 in
set_option maxHeartbeats 4000000 in
theorem applyEffect_spec (a : Option Addr) (n cap : Nat) (S : List Ent) (b : Bool) (ra : Option Addr) (rn rc : Nat) (wa : Option Addr) (wn wc : Nat) (W : List Ent) (w : World) (h : RowE w a n S) (h2 : RowE w wa wn W) (hz : a = none → cap = 0) :
    Calls Try.prog 53 #[.slice a n cap, .agg #[.bool b, .slice ra rn rc, .slice wa wn wc]] w (NewE w 70 (applyM S W)) := by
  have c2 : (w.alloc (.cells #[.bool b, .slice ra rn rc, .slice wa wn wc] 39)).cell? ⟨w.heap.size, 2, none⟩ = some (.slice wa wn wc) := by simp [go_sem]
  have hb0 := (Below.refl w.heap.size w).alloc (Nat.le_refl _) (.cells #[.bool b, .slice ra rn rc, .slice wa wn wc] 39)
  have hsz : w.heap.size < (w.alloc (.cells #[.bool b, .slice ra rn rc, .slice wa wn wc] 39)).heap.size := by simp
  go_enter Try.func53, Try.ntmps53
  go_wp2_with fail
  have hr0 := h.below hb0
  have hq0 := h2.below hb0
  obtain ⟨w0, hw0⟩ : ∃ w0, w0 = w.alloc (.cells #[.bool b, .slice ra rn rc, .slice wa wn wc] 39) := ⟨_, rfl⟩
  rw [← hw0] at c2 hb0 hr0 hq0 hsz ⊢
  clear hw0 h h2
  refine (storeValid_spec a n cap S _ hr0).mono ?_; rintro e w1 ⟨rfl, hd1⟩
  have hb1 := hd1.below w0.heap.size
  have hq1 := hq0.below hb1
  have hr1 := hr0.below hb1
  have d2 := below_cg hb1 hsz c2
  have hb01 := hb0.trans (hb1.mono hb0.size)
  have hs1 : w.heap.size < w1.heap.size := Nat.lt_of_lt_of_le hsz hb1.size
  clear hb1 hb0 hr0 hq0 hsz c2 hd1
  cases hS : storeB S with
  | false =>
    have HM : Hid (applyM S W = []) := Lib.hid (applyM_no (by rw [hS]; rfl))
    have ho := own_lit (w := w1) (B := w.heap.size) 70 2 #[] 0 (by omega) (by unfold maxLen; omega) rfl
    have HB := Lib.hid (hb01.alloc (Nat.le_of_lt hs1) (.cells #[] 70))
    clear hS hb01 hq1 hr1
    go_wp2
    go_ret
    exact ⟨_, rfl, by rw [HM.out]; exact ho, by rw [HM.out]; exact fun e he => (by cases he), HB.out⟩
  | true =>
    have HSV := Lib.hid hS
    clear hS
    go_wp2_with fail
    refine (l4Writes_spec wa wn wc W _ hq1).mono ?_; rintro e w2 ⟨rfl, hd2⟩
    have hb2 := hd2.below w1.heap.size
    have e2 := below_cg hb2 hs1 d2
    have hq2 := hq1.below hb2
    have hr2 := hr1.below hb2
    have hb02 := hb01.trans (hb2.mono hb01.size)
    have hs2 : w.heap.size < w2.heap.size := Nat.lt_of_lt_of_le hs1 hb2.size
    clear hb01 hb2 hq1 hr1 d2 hd2 hs1
    cases hW : writesB W with
    | false =>
      have HM : Hid (applyM S W = []) := Lib.hid (applyM_no (by rw [hW, HSV.out]; rfl))
      have ho := own_lit (w := w2) (B := w.heap.size) 70 2 #[] 0 (by omega) (by unfold maxLen; omega) rfl
      have HB := Lib.hid (hb02.alloc (Nat.le_of_lt hs2) (.cells #[] 70))
      clear hW hb02 hq2 hr2
      go_wp2
      go_ret
      exact ⟨_, rfl, by rw [HM.out]; exact ho, by rw [HM.out]; exact fun e he => (by cases he), HB.out⟩
    | true =>
      have HWV := Lib.hid hW
      clear hW
      have ho := own_lit (w := w2) (B := w.heap.size) 70 2 #[] 0 (by omega) (by unfold maxLen; omega) rfl
      have hb3 := (Below.refl w2.heap.size w2).alloc (Nat.le_refl _) (.cells #[] 70)
      have hr3 := hr2.below hb3
      have hSl := hr2.1
      have hS32 := store_len HSV.out
      have hnil : a = none → n = 0 ∧ cap = 0 := fun e => ⟨by
        rcases Nat.eq_zero_or_pos n with h | h
        · exact h
        · obtain ⟨b', o', he, -⟩ := hr2.2.2.1 h; (rw [e] at he; cases he), hz e⟩
      have hb03 := hb02.trans (hb3.mono (Nat.le_of_lt hs2))
      have HR3 := Lib.hid hr3
      have HNL := Lib.hid hnil
      have HLN := Lib.hid (show (flatE S).length = n * 2 by rw [flatE_len, hSl])
      have e3 := below_cg hb3 hs2 e2
      have hq3 := hq2.below hb3
      have hs3 : w.heap.size < (w2.alloc (.cells #[] 70)).heap.size := by simp; omega
      have HQ2 := Lib.hid (rowE_lt hq2)
      clear hz hnil hr3 hr2 hq2
      go_wp2_with (first | (at_builtin; refine wpList_append_rows rfl _ _ 23 rfl w.heap.size 70 (.agg #[.int .i64 0, .int .i64 0]) 2 16 Try.underlying23 infoEntA rfl (by decide) _ 0 [] (flatE S) (by rfl) ho a n cap (by rfl) HNL.out HLN.out HR3.out.news (flatE_oneCell S) (by omega) (by decide) (by omega) ?_; intro v5 w5 ho5 hg5; have hb5 := hb03.grown hg5 (Nat.le_of_lt hs3) (fun q hq => (ho.1.lt q hq).1); have e5 : w5.cell? ⟨w.heap.size, 2, none⟩ = some (.slice wa wn wc) := hg5.cell e3 (by simp [Value.ownBlock]; omega); have hq5 : RowE w5 wa wn W := rowE_apart hq3 hg5 (fun h0 b' o' he => by have := HQ2.out h0 b' o' he; simp [Value.ownBlock]; omega); clear hg5))
      rw [Nat.zero_add, List.nil_append] at ho5
      have HWL := Lib.hid hq5.1
      have HQ5 := Lib.hid hq5
      have hwn : wn ≤ 32 := by have := wr_len HWV.out; rw [HWL.out] at this; exact this
      have hxl : w.heap.size < w5.heap.size := World.block_lt_of_cell? w5 ⟨w.heap.size, 2, none⟩ e5
      have hL0 : Own w5 w.heap.size 70 2 v5 (applyL S (W.take 0)).length (flatE (applyL S (W.take 0))) := by
        show Own w5 w.heap.size 70 2 v5 S.length (flatE S)
        rw [hSl]; exact ho5
      clear hb3 ho hb03 e3 hq3 hs3 ho5 e2 hb02 hs2 hSl hq5
      go_loopw [5, 6] (fun v i wr => ∃ k : Nat, k ≤ wn ∧ i = .int .i64 k ∧ Own wr w.heap.size 70 2 v (applyL S (W.take k)).length (flatE (applyL S (W.take k))) ∧ Below w5.heap.size w5 wr) (fun _ i _ => wn - (intOf i).toNat)
      case atStart => exact ⟨0, Nat.zero_le _, rfl, hL0, Below.refl _ _⟩
      case round =>
        clear hL0
        obtain ⟨k, hk, rfl, hown, hb⟩ := hrel
        have hex := below_cg hb hxl e5
        have hok : Ok (applyL S (W.take k)) := ok_applyL ((storeB_ok S).1 HSV.out) ((writesB_ok _).1 (writesB_take HWV.out k)).2
        have hl32 := store_len ((storeB_ok _).2 hok)
        have HBW := Lib.hid (hb5.trans (hb.mono (Nat.le_of_lt hxl)))
        by_cases hlt : k < wn
        · have hqr := HQ5.out.below hb
          obtain ⟨b', off, rfl, hc⟩ := hqr.2.2.1 (by omega)
          obtain ⟨hc1, hc2⟩ := hc k hlt
          have hbl : b' < wr.heap.size := World.block_lt_of_cell? wr ⟨b', off + k * 2, none⟩ hc1
          have hbd := wrE_mem HWV.out k (by rw [HWL.out]; exact hlt)
          have HN : Hid (applyL S (W.take (k + 1)) = putRaw (W.getD k (0, 0)).1 (W.getD k (0, 0)).2 (applyL S (W.take k))) := Lib.hid (applyL_take S W k (by rw [HWL.out]; exact hlt))
          obtain ⟨⟨x1, x2⟩, y1, y2⟩ := hbd
          clear hc hqr
          obtain ⟨x, hx⟩ : ∃ x, x = (W.getD k (0, 0)).1 := ⟨_, rfl⟩
          obtain ⟨y, hy⟩ : ∃ y, y = (W.getD k (0, 0)).2 := ⟨_, rfl⟩
          rw [← hx] at hc1 x1 x2
          rw [← hy] at hc2 y1 y2
          rw [← hx, ← hy] at HN
          clear hx hy
          obtain ⟨L, hL⟩ : ∃ L, L = applyL S (W.take k) := ⟨_, rfl⟩
          rw [← hL] at hok hl32 hown HN
          clear hL
          have hwf := wf_of_ok hok.2
          obtain ⟨g, c, rfl, -, hrow⟩ := rowE_of_own hown (by omega) hwf
          have hxs : w.heap.size < wr.heap.size := World.block_lt_of_cell? wr ⟨w.heap.size, 2, none⟩ hex
          have HWX := Lib.hid (show (Lit.int .i64 x).wf = true from WalkArith.wf_i64 (by omega))
          have HWY := Lib.hid (show (Lit.int .i64 y).wf = true from WalkArith.wf_i64 (by omega))
          have q1 : (0 : Int) ≤ (k : Int) := by omega
          have q2 : (k : Int) < (wn : Int) := by omega
          have HL32 := Lib.hid (show L.length ≤ 1000 by omega)
          clear hown hok hl32 hwf
          go_wp2_with fail
          go_region_held3 (fun w' => w'.cell? ⟨w.heap.size, 2, none⟩ = some (.slice (some ⟨b', off, none⟩) wn wc) ∧ w'.cell? ⟨b', off + k * 2, none⟩ = some (.int .i64 x) ∧ w'.cell? ⟨b', off + k * 2 + 1, none⟩ = some (.int .i64 y)) (first | exact ⟨hex, hc1, hc2⟩ | exact ⟨g1, g2, g3⟩ | go_keep)
            ((go_at_call 88; refine (l2Put_spec _ _ _ L x y _ (by exact hrow) HL32.out HWX.out HWY.out).mono ?_; rintro e w7 ⟨v7, rfl, ho7, hw7, hb7'⟩; have hb7 : Below wr.heap.size wr w7 := (by first | exact hb7' | exact (Below.refl _ wr).drew.trans hb7' | exact (Below.refl _ wr).drew.drew.trans hb7'); have g1 := below_cg hb7 hxs hex; have g2 := below_cg hb7 hbl hc1; have g3 := below_cg hb7 hbl hc2))
          all_goals
            have ho8 : Own w7 w.heap.size 70 2 v7 (putRaw x y L).length (flatE (putRaw x y L)) := ⟨owns_mono ho7.1 (by first | exact Nat.le_of_lt hxs), ho7.2⟩
            have hb8 := hb.trans (hb7.mono hb.size)
            have HO8 := Lib.hid ho8
            have HB8 := Lib.hid hb8
            clear ho7 ho8 hb7 hb7' hb8 hex hc1 hc2 g1 g2 g3 hb
            go_wp2
            go_roundw
            case rel => exact ⟨k + 1, by omega, by go_num, by rw [HN.out]; exact HO8.out, HB8.out⟩
            case measure => simp [intOf]; omega
        · obtain rfl : k = wn := by omega
          have e : W.take k = W := List.take_of_length_le (by rw [HWL.out]; omega)
          rw [e] at hown hok
          have HM : Hid (applyM S W = applyL S W) := Lib.hid (applyM_yes HSV.out HWV.out)
          have HWF := Lib.hid (wf_of_ok hok.2)
          have HO := Lib.hid hown
          clear e hown hok hl32
          go_wp2
          go_ret
          exact ⟨_, rfl, by rw [HM.out]; exact HO.out, by rw [HM.out]; exact HWF.out, HBW.out⟩
end Go.Proofs.Ytpnahncmhldgdaa

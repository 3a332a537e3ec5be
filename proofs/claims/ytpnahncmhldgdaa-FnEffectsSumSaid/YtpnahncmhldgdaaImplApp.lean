/- The contract of the program's ApplyEffect. -/
import Derived.Test.YtpnahncmhldgdaaEffMem
import Derived.Test.YtpnahncmhldgdaaFour
namespace Go.Proofs.Ytpnahncmhldgdaa
open Go.RowKit
set_option linter.unusedVariables false
theorem below_at {B G o : Nat} {w w' : World} {v : Value} (hb : Below B w w') (hG : G < B) (hc : w.cell? ⟨G, o, none⟩ = some v) : w'.cell? ⟨G, o, none⟩ = some v := (hb.cell (p := ⟨G, o, none⟩) hG).trans hc
theorem newW_nil {w w' : World} (hb : Below w.heap.size w w') : NewW w [] (.returned (.slice none 0 0)) w' := ⟨_, rfl, World.ownsRow_nil _ _ _ _, fun x hx => (by cases hx), hb⟩
set_option maxRecDepth 100000 in
set_option maxHeartbeats 4000000 in
theorem applyEffect_impl (a : Option Addr) (n cap : Nat) (S : List Ent) (b : Bool) (ra : Option Addr) (rn rc : Nat) (wa : Option Addr) (wn wc : Nat) (W : List Ent) (w : World) (h : RowE w a n S) (h2 : RowE w wa wn W) :
    Calls Try.prog 52 #[.slice a n cap, .agg #[.bool b, .slice ra rn rc, .slice wa wn wc]] w (NewW w (applyM S W)) := by
  have c2 : (w.alloc (.cells #[.bool b, .slice ra rn rc, .slice wa wn wc] 39)).cell? ⟨w.heap.size, 2, none⟩ = some (.slice wa wn wc) := by simp [go_sem]
  have hb0 := (Below.refl w.heap.size w).alloc (Nat.le_refl _) (.cells #[.bool b, .slice ra rn rc, .slice wa wn wc] 39)
  have hsz : w.heap.size < (w.alloc (.cells #[.bool b, .slice ra rn rc, .slice wa wn wc] 39)).heap.size := by simp
  go_enter Try.func52, Try.ntmps52
  go_wp2_with fail
  have hr0 := h.below hb0
  have hq0 := h2.below hb0
  obtain ⟨w0, hw0⟩ : ∃ w0, w0 = w.alloc (.cells #[.bool b, .slice ra rn rc, .slice wa wn wc] 39) := ⟨_, rfl⟩
  rw [← hw0] at c2 hb0 hr0 hq0 hsz ⊢
  clear hw0 h h2
  refine (valuesOf_any a n cap S _ hr0).mono ?_; rintro e w1 ⟨rfl, hb1⟩
  have HG : Hid (storeB S = true → valsM S = arrOf S) := Lib.hid (fun hs => by simp [valsM, hs])
  have HL := Lib.hid (valsM_len S)
  obtain ⟨A, hA⟩ : ∃ A, A = valsM S := ⟨_, rfl⟩
  rw [← hA] at HL HG ⊢
  clear hA
  have hA0 := Arr.new w1 79 zeros
  have hq1 := hq0.below hb1
  replace c2 := below_at hb1 hsz c2
  have hb01 := hb0.trans (hb1.mono hb0.size)
  have HBG := Lib.hid (fun (b o : Nat) (h0 : 0 < wn) (he : wa = some ⟨b, o, none⟩) => show b < w1.heap.size by
    obtain ⟨b', o', he', hc⟩ := hq1.2.2.1 h0
    rw [he] at he'; simp only [Option.some.injEq, Addr.mk.injEq] at he'
    rw [he'.1]; exact World.block_lt_of_cell? w1 ⟨b', o' + 0 * 2, none⟩ (hc 0 h0).1)
  have hs1 : w.heap.size < w1.heap.size := Nat.lt_of_lt_of_le hsz hb1.size
  clear hb1 hb0 hr0 hq0 hsz
  cases hS : storeB S with
  | false =>
    have HM : Hid (applyM S W = []) := Lib.hid (applyM_no (by rw [hS]; rfl))
    clear hS HG
    go_wp2_with (first | (refine wpList_store_arr' rfl _ _ _ rfl _ A (by rfl) (by rfl) 79 _ hA0 (by rw [HL.out]; exact infoArr) (by rw [HL.out]; rfl) ?_; intro w2 hA2 hg2 hz2; have hb2 := below_new hb01 hg2; clear hg2 hz2))
    go_ret
    rw [HM.out]
    exact newW_nil hb2
  | true =>
    rw [HG.out hS] at HL
    have HAO := Lib.hid (HG.out hS)
    have HSV := Lib.hid hS
    clear hS HG
    go_wp2_with (first | (refine wpList_store_arr' rfl _ _ _ rfl _ A (by rfl) (by rfl) 79 _ hA0 (by rw [HAO.out, HL.out]; exact infoArr) (by rw [HAO.out, HL.out]; rfl) ?_; intro w2 hA2 hg2 hz2; have hb2' := below_new (Below.refl _ w1) hg2; have d2 := below_at hb2' hs1 c2; have hq2 := hq1.below hb2'; clear hg2 hz2 c2 hq1))
    have hb2 := hb01.trans (hb2'.mono (Nat.le_of_lt hs1))
    rw [HAO.out] at hA2
    obtain ⟨g, hg⟩ : ∃ g, g = w1.heap.size := ⟨_, rfl⟩
    rw [← hg] at hA2 hs1 HBG ⊢
    clear hA0 hg hb2' hb01
    refine (areWrites_impl wa wn wc W _ hq2).mono ?_; rintro e w3 ⟨rfl, hb3⟩
    have d3 := below_at hb3 (Nat.lt_trans hs1 hA2.lt) d2
    have hq3 := hq2.below hb3
    have hA3 := hA2.after hb3
    have hb03 := hb2.trans (hb3.mono hb2.size)
    clear d2 hq2 hA2 hb3 hb2
    cases hW : writesB W with
    | false =>
      have HM : Hid (applyM S W = []) := Lib.hid (applyM_no (by rw [hW, HSV.out]; rfl))
      clear hW
      go_wp2
      go_ret
      rw [HM.out]
      exact newW_nil hb03
    | true =>
      have HWV := Lib.hid hW
      clear hW
      have HR := Lib.hid hq3
      go_wp2
      go_loopw [8, 25] (fun _ i wr => ∃ k : Nat, k ≤ wn ∧ i = .int .i64 k ∧ Arr wr g 79 (arrOf (applyL S (W.take k))) ∧ Below g w3 wr) (fun _ i _ => wn - (intOf i).toNat)
      case atStart => exact ⟨0, Nat.zero_le _, rfl, by simpa [applyL] using hA3, Below.refl _ _⟩
      case round =>
        clear hA3 d3
        obtain ⟨k, hk, rfl, hA, hB⟩ := hrel
        have hmx := hq3.2.1
        unfold maxLen at hmx
        by_cases hlt : k < wn
        · obtain ⟨bb, off, rfl, hc⟩ := hq3.2.2.1 (by omega)
          have hbg := HBG.out bb off (by omega) rfl
          obtain ⟨c1, c2⟩ := hc k hlt
          have hc1 := below_at hB hbg c1
          have hc2 := below_at hB hbg c2
          have hbs : bb < wr.heap.size := World.block_lt_of_cell? wr ⟨bb, off + k * 2, none⟩ hc1
          have hbd := wrE_mem HWV.out k (by rw [HR.out.1]; exact hlt)
          have HN : Hid (arrOf (applyL S (W.take (k + 1))) = (arrOf (applyL S (W.take k))).set (W.getD k (0, 0)).1.toNat (W.getD k (0, 0)).2) := Lib.hid (by rw [applyL_take S W k (by rw [HR.out.1]; exact hlt), arrOf_put hbd.1.1 hbd.1.2])
          obtain ⟨⟨x1, x2⟩, -⟩ := hbd
          clear hc c1 c2 hq3
          obtain ⟨x, hx⟩ : ∃ x, x = (W.getD k (0, 0)).1 := ⟨_, rfl⟩
          obtain ⟨y, hy⟩ : ∃ y, y = (W.getD k (0, 0)).2 := ⟨_, rfl⟩
          rw [← hx] at hc1 x1 x2
          rw [← hy] at hc2
          rw [← hx, ← hy] at HN
          clear hx hy
          obtain ⟨Q, hQ⟩ : ∃ Q, Q = arrOf (applyL S (W.take k)) := ⟨_, rfl⟩
          have hQl : Q.length = 32 := by rw [hQ, arrOf_len]
          rw [← hQ] at hA HN
          clear hQ
          obtain ⟨m, rfl⟩ : ∃ m : Nat, x = (m : Int) := ⟨x.toNat, by omega⟩
          have hcA := hA.cell m (by omega)
          have hfA := hA.frozen m
          have hlt1 := hA.lt
          go_wp2
          go_roundw
          case rel => exact ⟨k + 1, by omega, by go_num, by rw [HN.out, Int.toNat_natCast]; exact (hA.set m y).alloc _, (hB.setCell (Nat.le_refl _) _).alloc (by rw [size_setCell]; omega) _⟩
          case measure => simp [intOf]; omega
        · obtain rfl : k = wn := by omega
          have e : W.take k = W := List.take_of_length_le (by rw [HR.out.1]; omega)
          rw [e] at hA
          have hok := ok_applyL ((storeB_ok S).1 HSV.out) ((writesB_ok W).1 HWV.out).2
          have HM : Hid (applyM S W = entTo (arrOf (applyL S W)) 32) := Lib.hid (by rw [applyM_yes HSV.out HWV.out, ent_arr hok])
          have HWF : Hid (WfE (entTo (arrOf (applyL S W)) 32)) := Lib.hid (by rw [ent_arr hok]; exact wf_of_ok hok.2)
          have HL2 := Lib.hid (arrOf_len (applyL S W))
          have HBB := Lib.hid (hb03.trans (hB.mono (Nat.le_of_lt hs1)))
          obtain ⟨Q, hQ⟩ : ∃ Q, Q = arrOf (applyL S W) := ⟨_, rfl⟩
          rw [← hQ] at hA HM HWF HL2
          clear hQ e hok hq3 hb03 hB
          go_wp2_with (first | (refine wpList_load_arr rfl _ _ rfl _ (by rfl) 79 Q hA _ _ Try.underlying79 (by rw [HL2.out]; exact infoArr) ?_))
          refine (entries_impl Q _ HL2.out).mono ?_; rintro e w5 ⟨v, rfl, ho, hb5⟩
          go_wp2
          go_ret
          exact ⟨v, rfl, by rw [HM.out]; exact owns_mono ho HBB.out.size, by rw [HM.out]; exact HWF.out, HBB.out.trans (hb5.mono HBB.out.size)⟩
end Go.Proofs.Ytpnahncmhldgdaa

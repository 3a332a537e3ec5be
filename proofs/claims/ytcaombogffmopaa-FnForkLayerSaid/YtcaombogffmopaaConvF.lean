/- Texts of ours that stand together: ConvL, ConvL2, ConvL3 -/
import Derived.Test.YtcaombogffmopaaConv
import Derived.Test.YtcaombogffmopaaLayP
/- The contracts of the laws' own helpers over layers. -/
namespace Go.Proofs.Ytcaombogffmopaa
open Go.RowKit
set_option linter.unusedVariables false
theorem infoLayC : (Try.prog.info? 28).map (fun i => (i.zero, i.size, i.bytes)) = some (some (.agg #[.int .i64 0, .slice none 0 0]), 2, 32) := by kernel_rfl
/-- How many entries all layers have. -/
def sumW : List Lay → Nat
  | [] => 0
  | x :: r => x.2.length + sumW r
theorem sumW_append (l m : List Lay) : sumW (l ++ m) = sumW l + sumW m := by
  induction l with
  | nil => simp [sumW]
  | cons a r ih => simp only [List.cons_append, sumW, ih]; omega
theorem takeL_one (L : List Lay) (k : Nat) (h : k < L.length) : L.take (k + 1) = L.take k ++ [L.getD k (0, [])] := by
  rw [List.take_succ_eq_append_getElem h, List.getD_eq_getElem?_getD, List.getElem?_eq_getElem h]; rfl
theorem sumW_next (L : List Lay) (k : Nat) (h : k < L.length) : sumW (L.take (k + 1)) = sumW (L.take k) + (L.getD k (0, [])).2.length := by
  rw [takeL_one L k h, sumW_append]; simp [sumW]
theorem sumW_take (L : List Lay) (k : Nat) : sumW (L.take k) ≤ sumW L := by
  have h := sumW_append (L.take k) (L.drop k)
  rw [List.take_append_drop] at h; omega
theorem sumW_len (L : List Lay) (k : Nat) (h : k < L.length) : (L.getD k (0, [])).2.length ≤ sumW L := by
  have := sumW_next L k h; have := sumW_take L (k + 1); omega
/-- How much all layers weigh. -/
def wtL (L : List Lay) : Nat := L.length + sumW L
theorem szLayer_any (y : Int) (a : Option Addr) (n cap : Nat) (left : Int) (w : World) (h0 : 0 ≤ left) (h1 : left ≤ 1048576) (hn : n ≤ maxLen) :
    Calls Try.prog 68 #[.agg #[.int .i64 y, .slice a n cap], .int .i64 left] w fun e w' => e = .returned (.int .i64 (if (n : Int) ≤ left then left - n else -1)) ∧ Below w.heap.size w w' := by
  have HM := Lib.hid hn; clear hn
  go_enter Try.func68, Try.ntmps68
  go_wp2_with fail
  refine (szEntryS_any a n cap left _ h0 h1 HM.out).mono ?_; rintro e w' ⟨rfl, rfl⟩
  by_cases h : (n : Int) ≤ left
  · rw [if_pos h]
    have hb : decide (left - (n : Int) < 0) = false := by simp; omega
    go_wp2
    go_ret
    exact ⟨rfl, (Below.refl _ _).alloc (Nat.le_refl _) _⟩
  · rw [if_neg h]
    go_wp2
    go_ret
    exact ⟨rfl, (Below.refl _ _).alloc (Nat.le_refl _) _⟩
/-- What is left when all layers are weighed, or -1. -/
def szM (L : List Lay) (left : Int) : Int := if (wtL L : Int) ≤ left then left - wtL L else -1
theorem szM_yes {L : List Lay} {left : Int} (h : (wtL L : Int) ≤ left) : szM L left = left - wtL L := by unfold szM; rw [if_pos h]
theorem szM_no {L : List Lay} {left : Int} (h : left < (wtL L : Int)) : szM L left = -1 := by unfold szM; rw [if_neg (by omega)]
/-- An int, and nothing old has turned. -/
def IntW (n : Int) (w : World) (e : Ending) (w' : World) : Prop := e = .returned (.int .i64 n) ∧ Below w.heap.size w w'
set_option maxHeartbeats 1000000 in
theorem szLayerS_any (a : Option Addr) (n cap : Nat) (L : List Lay) (left : Int) (w : World) (h : RowL w a n L) (h0 : 0 ≤ left) (h1 : left ≤ 1048576) :
    Calls Try.prog 35 #[.slice a n cap, .int .i64 left] w (IntW (szM L left) w) := by
  obtain ⟨hl, hm, hc, -⟩ := h
  unfold maxLen at hm
  have HL := Lib.hid hl; clear hl
  have HW : Hid (wtL L = n + sumW L) := Lib.hid (by rw [wtL, HL.out])
  have HS : Hid (∀ k, sumW (L.take k) ≤ sumW L) := Lib.hid (sumW_take L)
  have HNX : Hid (∀ k, k < n → sumW (L.take (k + 1)) = sumW (L.take k) + (L.getD k (0, [])).2.length) := Lib.hid (fun k hk => sumW_next L k (by rw [HL.out]; exact hk))
  by_cases hn : (n : Int) ≤ left
  · by_cases h00 : 0 < n
    · obtain ⟨b, off, rfl, hcc⟩ := hc h00; clear hc; have hc := hcc; clear hcc
      have hbB : b < w.heap.size := World.block_lt_of_cell? w ⟨b, off + 0 * 2, none⟩ (hc 0 h00).1
      go_enter Try.func35, Try.ntmps35
      go_wp2
      go_loopw [1, 5] (fun q i wr => ∃ k : Nat, k ≤ n ∧ i = .int .i64 k ∧ q = .int .i64 (left - n - (sumW (L.take k) : Nat)) ∧ (n : Int) + (sumW (L.take k) : Nat) ≤ left ∧ Below w.heap.size w wr) (fun _ i _ => n - (intOf i).toNat)
      case atStart => exact ⟨0, Nat.zero_le _, rfl, by simp [sumW], by simp [sumW]; omega, Below.refl _ _⟩
      case round =>
        obtain ⟨k, hk, rfl, rfl, hle, hb⟩ := hrel
        by_cases hlt : k < n
        · obtain ⟨c1, x, c2, hs⟩ := hc k hlt
          have hc1 := (hb.cell (p := ⟨b, off + k * 2, none⟩) hbB).trans c1
          have hc2 := (hb.cell (p := ⟨b, off + k * 2 + 1, none⟩) hbB).trans c2
          obtain ⟨a', n', cap', rfl, hre, hcz, hcl⟩ := hs
          have hln := HNX.out k hlt
          have hst := HS.out (k + 1)
          rw [hre.1] at hln
          have HM := Lib.hid hre.2.1
          clear hc c1 c2 hre
          obtain ⟨s, hs⟩ : ∃ s, s = sumW (L.take k) := ⟨_, rfl⟩
          obtain ⟨s', hs'⟩ : ∃ s', s' = sumW (L.take (k + 1)) := ⟨_, rfl⟩
          rw [← hs, ← hs'] at hln
          have hln1 : s' ≤ s + n' := by omega
          have hln2 : s + n' ≤ s' := by omega
          clear hln
          rw [← hs] at hle ⊢
          rw [← hs'] at hst
          have HS1 := Lib.hid hs'
          clear hs hs'
          go_wp2_with fail
          refine (szLayer_any _ a' n' cap' _ _ (by omega) (by omega) HM.out).mono ?_; rintro e w2 ⟨rfl, hb2⟩
          have hb3 := hb.trans (hb2.mono hb.size)
          by_cases hq : (n' : Int) ≤ left - n - s
          · rw [if_pos hq]
            have hbq : decide (left - (n : Int) - (s : Int) - (n' : Int) < 0) = false := by simp; omega
            go_wp2
            go_roundw
            case rel => exact ⟨k + 1, by omega, by go_num, by rw [← HS1.out]; congr 1; omega, by rw [← HS1.out]; omega, hb3⟩
            case measure => simp [intOf]; omega
          · rw [if_neg hq]
            have HR : Hid (szM L left = -1) := Lib.hid (szM_no (by rw [HW.out]; omega))
            clear hq
            go_wp2
            go_ret
            exact ⟨by rw [HR.out]; rfl, hb3⟩
        · obtain rfl : k = n := by omega
          have e : L.take k = L := List.take_of_length_le (by rw [HL.out]; omega)
          rw [e] at hle ⊢
          have HR : Hid (szM L left = left - (k : Int) - (sumW L : Int)) := Lib.hid (by rw [szM_yes (by rw [HW.out]; omega), HW.out]; omega)
          clear hc e
          go_wp2
          go_ret
          exact ⟨by rw [HR.out]; rfl, hb⟩
    · obtain rfl : n = 0 := by omega
      obtain rfl : L = [] := List.eq_nil_of_length_eq_zero HL.out
      clear hc
      have HR : Hid (szM [] left = left) := Lib.hid (by rw [szM_yes (by simp [wtL, sumW]; omega)]; simp [wtL, sumW])
      have hnn : decide (left < 0) = false := by simp; omega
      go_enter Try.func35, Try.ntmps35
      go_wp2
      go_loop [1, 5] (fun q i => q = .int .i64 left ∧ i = .int .i64 0) (fun _ _ => 0)
      case atStart => exact ⟨by simp, rfl⟩
      case round =>
        obtain ⟨rfl, rfl⟩ := hrel
        go_wp2
        go_ret
        exact ⟨by rw [HR.out]; rfl, Below.refl _ _⟩
  · have HR : Hid (szM L left = -1) := Lib.hid (szM_no (by rw [HW.out]; omega))
    have hbq : decide (left - (n : Int) < 0) = true := by simp; omega
    clear hc
    go_enter Try.func35, Try.ntmps35
    go_wp2
    go_ret
    exact ⟨by rw [HR.out]; rfl, Below.refl _ _⟩
end Go.Proofs.Ytcaombogffmopaa
/- The contracts of the laws' own helpers over layers: copies, comparisons. -/
namespace Go.Proofs.Ytcaombogffmopaa
open Go.RowKit
set_option linter.unusedVariables false
/-- A layer, its writes in new memory. -/
def GotLay (y : Int) (l : List Ent) (w : World) (e : Ending) (w' : World) : Prop :=
  ∃ g c, e = .returned (.agg #[.int .i64 y, .slice (some ⟨g, 0, none⟩) l.length c]) ∧ w'.ownsRow w.heap.size 42 2 (.slice (some ⟨g, 0, none⟩) l.length c) l.length (flatE l) ∧ WfE l ∧ Below w.heap.size w w'
theorem toLayer_any (y : Int) (a : Option Addr) (n cap : Nat) (l : List Ent) (w : World) (h : RowE w a n l) (hn : n ≤ 1048576) :
    Calls Try.prog 69 #[.agg #[.int .i64 y, .slice a n cap]] w (GotLay y l w) := by
  have HR := Lib.hid h; clear h
  go_enter Try.func69, Try.ntmps69
  go_wp2_with fail
  have hb0 : Below w.heap.size w ((((w.alloc (.cells #[.int .i64 y, .slice a n cap] 91)).alloc (.cells #[.int .i64 0, .slice none 0 0] 28)).alloc (.cells #[.int .i64 y, .slice none 0 0] 28))) := (((Below.refl _ _).alloc (Nat.le_refl _) _).alloc (by simp) _).alloc (by simp; omega) _
  refine (toEntryS_any a n cap l _ (HR.out.below hb0) hn).mono ?_; rintro e w1 ⟨v, rfl, ho, hw, hb1⟩
  obtain ⟨W0, hW0⟩ : ∃ W0, W0 = (((w.alloc (.cells #[.int .i64 y, .slice a n cap] 91)).alloc (.cells #[.int .i64 0, .slice none 0 0] 28)).alloc (.cells #[.int .i64 y, .slice none 0 0] 28)) := ⟨_, rfl⟩
  have hz : W0.heap.size = w.heap.size + 3 := by rw [hW0]; simp
  have d10 : W0.cell? ⟨w.heap.size + 1, 0, none⟩ = some (.int .i64 0) := by rw [hW0]; simp [go_sem]
  have d11 : W0.cell? ⟨w.heap.size + 1, 1, none⟩ = some (.slice none 0 0) := by rw [hW0]; simp [go_sem]
  have d20 : W0.cell? ⟨w.heap.size + 2, 0, none⟩ = some (.int .i64 y) := by rw [hW0]; simp [go_sem]
  have d21 : W0.cell? ⟨w.heap.size + 2, 1, none⟩ = some (.slice none 0 0) := by rw [hW0]; simp [go_sem]
  have e10 : W0.frozen? ⟨w.heap.size + 1, 0, none⟩ = false := by rw [hW0]; simp [go_sem]
  have e11 : W0.frozen? ⟨w.heap.size + 1, 1, none⟩ = false := by rw [hW0]; simp [go_sem]
  have e20 : W0.frozen? ⟨w.heap.size + 2, 0, none⟩ = false := by rw [hW0]; simp [go_sem]
  have e21 : W0.frozen? ⟨w.heap.size + 2, 1, none⟩ = false := by rw [hW0]; simp [go_sem]
  rw [← hW0] at hb0 ho hb1
  clear hW0
  have g10 := (hb1.cell (p := ⟨w.heap.size + 1, 0, none⟩) (by simp; omega)).trans d10
  have g11 := (hb1.cell (p := ⟨w.heap.size + 1, 1, none⟩) (by simp; omega)).trans d11
  have g20 := (hb1.cell (p := ⟨w.heap.size + 2, 0, none⟩) (by simp; omega)).trans d20
  have g21 := (hb1.cell (p := ⟨w.heap.size + 2, 1, none⟩) (by simp; omega)).trans d21
  have f10 := (hb1.frozen (p := ⟨w.heap.size + 1, 0, none⟩) (by simp; omega)).trans e10
  have f11 := (hb1.frozen (p := ⟨w.heap.size + 1, 1, none⟩) (by simp; omega)).trans e11
  have f20 := (hb1.frozen (p := ⟨w.heap.size + 2, 0, none⟩) (by simp; omega)).trans e20
  have f21 := (hb1.frozen (p := ⟨w.heap.size + 2, 1, none⟩) (by simp; omega)).trans e21
  clear d10 d11 d20 d21 e10 e11 e20 e21
  obtain ⟨g, c, rfl, hg, -⟩ := ho.slice
  have HO := Lib.hid ho.1
  have HB := Lib.hid (hb0.trans (hb1.mono (by omega)))
  have HZ := Lib.hid hz
  clear ho hb0 hb1 hz
  go_wp2
  refine bodyPost_ret (v := .agg #[.int .i64 y, .slice (some ⟨g, 0, none⟩) l.length c]) (by simp [results, Try.results69, go_sem, g10, g11]) rfl ⟨g, c, rfl, ?_, hw, ?_⟩
  · have h1 := ownsRow_setCell_below HO.out (a := ⟨w.heap.size + 2, 1, none⟩) (by simp; have := HZ.out; omega) (.slice (some ⟨g, 0, none⟩) l.length c)
    have h2 := ownsRow_setCell_below h1 (a := ⟨w.heap.size + 1, 0, none⟩) (by simp; have := HZ.out; omega) (.int .i64 y)
    have h3 := ownsRow_setCell_below h2 (a := ⟨w.heap.size + 1, 1, none⟩) (by simp; have := HZ.out; omega) (.slice (some ⟨g, 0, none⟩) l.length c)
    exact owns_mono h3 (by have := HZ.out; omega)
  · exact ((HB.out.setCell (by simp; omega) _).setCell (by simp) _).setCell (by simp) _
set_option maxHeartbeats 4000000 in
theorem toLayerS_any (a : Option Addr) (n cap : Nat) (L : List Lay) (w : World) (h : RowL w a n L) (hn : wtL L ≤ 1048576) :
    Calls Try.prog 36 #[.slice a n cap] w (NewLL w 28 42 L) := by
  have HWF := Lib.hid h.2.2.2
  obtain ⟨hl, -, hc, -⟩ := h
  have HN := Lib.hid hl; clear hl
  have HSW : Hid (∀ k, k < n → (L.getD k (0, [])).2.length ≤ 1048576) := Lib.hid (fun k hk => by have := sumW_len L k (by rw [HN.out]; exact hk); unfold wtL at hn; omega)
  have hn1 : n ≤ 1048576 := by unfold wtL at hn; rw [HN.out] at hn; omega
  clear hn
  obtain ⟨i0, hi, hz0, hz1, hz2⟩ := info_parts infoLayC
  go_enter Try.func36, Try.ntmps36
  go_wp2_with (first | (at_make; refine wpList_make_full _ rfl (.tmp 6) (.tmp 6) 23 rfl w.heap.size 28 i0 (.agg #[.int .i64 0, .slice none 0 0]) 2 Try.underlying23 hi hz0 hz1 .i64 .i64 n n n rfl rfl rfl rfl (by rw [hz2]; omega) (by unfold maxLen; omega) (Nat.le_refl _) ?_; intro w2 hown hgrow; clear hi hz0 hz1 hz2))
  have hb2 : Below w.heap.size w w2 := (Below.refl _ _).grown hgrow (Nat.le_refl _) (fun k hk => by simp at hk)
  have hg2 : w.heap.size < w2.heap.size := (hown.lt w.heap.size rfl).2
  have ho2 := own2_made (T := w2.heap.size) (.int .i64 0) (.slice none 0 0) (.int 0) (.ents 42 []) olC none rfl hown (fun b hb => by simp [blk] at hb; omega) ⟨rfl, by decide⟩ (ents_nil _ _) rfl rfl olC_len
  have hm0 : FillL w2 w.heap.size w.heap.size n L 0 := ⟨_, by rw [fillO_zero, HN.out]; exact ho2⟩
  clear hown hgrow ho2
  by_cases h0 : 0 < n
  · obtain ⟨b, off, rfl, hcc⟩ := hc h0; clear hc; have hc := hcc; clear hcc
    have hbB : b < w.heap.size := World.block_lt_of_cell? w ⟨b, off + 0 * 2, none⟩ (hc 0 h0).1
    go_loopw [4] (fun i wr => ∃ k : Nat, k ≤ n ∧ i = .int .i64 k ∧ FillL wr w.heap.size w.heap.size n L k ∧ Below w.heap.size w wr) (fun i _ => n - (intOf i).toNat)
    case atStart => exact ⟨0, Nat.zero_le _, rfl, hm0, hb2⟩
    case round =>
      clear hm0 hb2 hg2
      obtain ⟨k, hk, rfl, hfw, hb⟩ := hrel
      by_cases hlt : k < n
      · obtain ⟨c1, x, c2, hs⟩ := hc k hlt
        have hc1 := (hb.cell (p := ⟨b, off + k * 2, none⟩) hbB).trans c1
        have hc2 := (hb.cell (p := ⟨b, off + k * 2 + 1, none⟩) hbB).trans c2
        obtain ⟨a', n', cap', rfl, hre, hcz, hcl⟩ := hs
        have hwf := HWF.out _ (getD_memL L k (by rw [HN.out]; exact hlt))
        have hle := HSW.out k hlt
        obtain ⟨xs, hO⟩ := hfw
        have HST := Lib.hid (fun (W : World) (v : Value) (h : Own2 W w.heap.size wr.heap.size 28 2 (.slice (some ⟨w.heap.size, 0, none⟩) n n) n ((fillO L k).flatMap olC) xs) (hv : W.ownsRow wr.heap.size 42 2 v (L.getD k (0, [])).2.length (flatE (L.getD k (0, [])).2)) (hwf2 : WfE (L.getD k (0, [])).2) (h2 : wr.heap.size ≤ W.heap.size) => FillL.store h (by rw [HN.out]; exact hlt) v hv hwf2 (by omega) hb.size hwf h2)
        have HO := Lib.hid hO
        have hre2 := hre.below hb
        have hgw : w.heap.size < wr.heap.size := (hO.1.lt w.heap.size rfl).2
        clear hc c1 c2 hre hwf hO
        obtain ⟨y, hy⟩ : ∃ y, y = (L.getD k (0, [])).1 := ⟨_, rfl⟩
        obtain ⟨l, hll⟩ : ∃ l, l = (L.getD k (0, [])).2 := ⟨_, rfl⟩
        rw [← hy] at hc1 HST
        rw [← hll] at hre2 HST hle
        clear hy hll
        go_wp2_with fail
        refine (toLayer_any y a' n' cap' l _ hre2 (by rw [← hre2.1]; exact hle)).mono ?_; rintro e w3 ⟨g3, c3, rfl, ho3, hw3, hb3⟩
        have hO3 := HO.out.below hb3
        obtain ⟨n0, ⟨n1, n1'⟩, n2, n3⟩ := FillL.next hO3 (by rw [HN.out]; exact hlt)
        have HF := Lib.hid (HST.out w3 _ hO3 ho3 hw3 hb3.size)
        have HB := Lib.hid (hb.trans (hb3.mono hb.size))
        clear hO3 ho3 hw3 hb3 hb hre2
        go_wp2
        go_roundw
        case rel => exact ⟨k + 1, by omega, by go_num, HF.out, (HB.out.setCell (p := ⟨w.heap.size, k * 2, none⟩) (Nat.le_refl _) _).setCell (p := ⟨w.heap.size, k * 2 + 1, none⟩) (Nat.le_refl _) _⟩
        case measure => simp [intOf]; omega
      · obtain rfl : k = n := by omega
        have e : (fillO L k).flatMap olC = L.flatMap (layC 42) := by rw [← HN.out, fillO_all]; exact olC_all L
        obtain ⟨xs, hO⟩ := hfw
        rw [e] at hO
        have HO2 := Lib.hid hO
        clear hO e hc
        go_wp2
        go_ret
        exact ⟨_, rfl, ⟨by rw [HN.out]; omega, xs, by rw [HN.out]; exact HO2.out⟩, hb⟩
  · obtain rfl : n = 0 := by omega
    obtain rfl : L = [] := List.eq_nil_of_length_eq_zero HN.out
    have HM := Lib.hid hm0
    clear hc hm0
    go_loopw [4] (fun i wr => i = .int .i64 0 ∧ wr = w2) (fun _ _ => 0)
    case atStart => exact ⟨rfl, rfl⟩
    case round =>
      obtain ⟨rfl, rfl⟩ := hrel
      go_wp2
      go_ret
      exact ⟨_, rfl, ⟨by simp, HM.out⟩, hb2⟩
theorem eqLayer_same (y : Int) (a a' : Option Addr) (n cap cap' : Nat) (l : List Ent) (w : World) (h : RowE w a n l) (h' : RowE w a' n l) :
    Calls Try.prog 70 #[.agg #[.int .i64 y, .slice a n cap], .agg #[.int .i64 y, .slice a' n cap']] w fun e w' => e = .returned (.bool true) ∧ Below w.heap.size w w' := by
  have HR := Lib.hid h; clear h
  have HR' := Lib.hid h'; clear h'
  go_enter Try.func70, Try.ntmps70
  have hb0 := ((Below.refl w.heap.size w).alloc (Nat.le_refl _) (.cells #[.int .i64 y, .slice a n cap] 28)).alloc (by simp) (.cells #[.int .i64 y, .slice a' n cap'] 28)
  go_wp2_with fail
  refine (eqEntryS_same a a' n cap cap' l _ (HR.out.below hb0) (HR'.out.below hb0)).mono ?_; rintro e w1 ⟨rfl, hb1⟩
  have hb2 := hb0.trans (hb1.mono hb0.size)
  clear hb0 hb1
  go_wp2
  go_ret
  exact ⟨rfl, hb2⟩
set_option maxRecDepth 100000 in
set_option maxHeartbeats 1000000 in
theorem eqLayerS_same (a a' : Option Addr) (n cap cap' : Nat) (L : List Lay) (w : World) (h : RowL w a n L) (h' : RowL w a' n L) :
    Calls Try.prog 37 #[.slice a n cap, .slice a' n cap'] w fun e w' => e = .returned (.bool true) ∧ Below w.heap.size w w' := by
  obtain ⟨hl, hm, hc, -⟩ := h
  obtain ⟨-, -, hc', -⟩ := h'
  unfold maxLen at hm
  have HN := Lib.hid hl; clear hl
  by_cases h0 : 0 < n
  · obtain ⟨b, off, rfl, hcc⟩ := hc h0; clear hc; have hc := hcc; clear hcc
    obtain ⟨b', off', rfl, hcc⟩ := hc' h0; clear hc'; have hc' := hcc; clear hcc
    have hbB : b < w.heap.size := World.block_lt_of_cell? w ⟨b, off + 0 * 2, none⟩ (hc 0 h0).1
    have hbB' : b' < w.heap.size := World.block_lt_of_cell? w ⟨b', off' + 0 * 2, none⟩ (hc' 0 h0).1
    go_enter Try.func37, Try.ntmps37
    go_wp2
    go_loopw [5] (fun i wr => ∃ k : Nat, k ≤ n ∧ i = .int .i64 k ∧ Below w.heap.size w wr) (fun i _ => n - (intOf i).toNat)
    case atStart => exact ⟨0, Nat.zero_le _, rfl, Below.refl _ _⟩
    case round =>
      obtain ⟨k, hk, rfl, hb⟩ := hrel
      by_cases hlt : k < n
      · obtain ⟨c1, x, c2, hs⟩ := hc k hlt
        obtain ⟨c1', x', c2', hs'⟩ := hc' k hlt
        have hc1 := (hb.cell (p := ⟨b, off + k * 2, none⟩) hbB).trans c1
        have hc2 := (hb.cell (p := ⟨b, off + k * 2 + 1, none⟩) hbB).trans c2
        have hd1 := (hb.cell (p := ⟨b', off' + k * 2, none⟩) hbB').trans c1'
        have hd2 := (hb.cell (p := ⟨b', off' + k * 2 + 1, none⟩) hbB').trans c2'
        obtain ⟨a1, n1, cap1, rfl, hre, -, -⟩ := hs
        obtain ⟨a2, n2, cap2, rfl, hre', -, -⟩ := hs'
        obtain rfl : n1 = n2 := by rw [← hre.1, ← hre'.1]
        have HR1 := Lib.hid (hre.below hb)
        have HR2 := Lib.hid (hre'.below hb)
        clear hc hc' c1 c2 c1' c2' hre hre'
        obtain ⟨y, hy⟩ : ∃ y, y = (L.getD k (0, [])).1 := ⟨_, rfl⟩
        obtain ⟨l, hll⟩ : ∃ l, l = (L.getD k (0, [])).2 := ⟨_, rfl⟩
        rw [← hy] at hc1 hd1
        rw [← hll] at HR1 HR2
        clear hy hll
        go_wp2
        go_still_tail 8, (by kernel_rfl)
        go_wp2_with fail
        refine (eqLayer_same y a1 a2 n1 cap1 cap2 l _ (show RowE wr.drew _ _ l from HR1.out) (show RowE wr.drew _ _ l from HR2.out)).mono ?_; rintro e w1 ⟨rfl, hb1⟩
        go_wp2
        go_roundw
        case rel => exact ⟨k + 1, by omega, by go_num, by first | exact hb.trans (hb1.mono hb.size) | exact hb.drew.trans (hb1.mono hb.size) | exact (below_drewN' hb _).trans (hb1.mono hb.size)⟩
        case measure => simp [intOf]; omega
      · clear hc hc'
        go_wp2
        go_ret
        exact ⟨rfl, hb⟩
  · obtain rfl : n = 0 := by omega
    clear hc hc'
    go_enter Try.func37, Try.ntmps37
    go_wp2
    go_loop [5] (fun i => i = .int .i64 0) (fun _ => 0)
    case atStart => rfl
    case round =>
      subst hrel
      go_wp2
      go_ret
      exact ⟨rfl, Below.refl _ _⟩
end Go.Proofs.Ytcaombogffmopaa
/- The contracts of the laws' own helpers over layers: marks; sameLayers. -/
namespace Go.Proofs.Ytcaombogffmopaa
open Go.RowKit
set_option linter.unusedVariables false
/-- The marks from k on. -/
def marksL : Int → List Lay → List Lay
  | _, [] => []
  | k, x :: r => (k, marksE (k + 1) x.2.length) :: marksL (k + 1 + 2 * x.2.length) r
/-- How many marks there are ahead of the j-th layer. -/
def offL (L : List Lay) (j : Nat) : Nat := j + 2 * sumW (L.take j)
theorem marksL_append (k : Int) (l m : List Lay) : marksL k (l ++ m) = marksL k l ++ marksL (k + (l.length + 2 * sumW l : Nat)) m := by
  induction l generalizing k with
  | nil => simp [marksL, sumW]
  | cons a r ih =>
    simp only [List.cons_append, marksL, ih, sumW, List.length_cons]
    congr 3; omega
theorem marksL_len (k : Int) (L : List Lay) : (marksL k L).length = L.length := by
  induction L generalizing k with
  | nil => rfl
  | cons a r ih => simp [marksL, ih]
theorem marksL_next (k : Int) (L : List Lay) (j : Nat) (h : j < L.length) : marksL k (L.take (j + 1)) = marksL k (L.take j) ++ [(k + offL L j, marksE (k + offL L j + 1) (L.getD j (0, [])).2.length)] := by
  rw [takeL_one L j h, marksL_append]
  have e : (L.take j).length = j := by rw [List.length_take]; omega
  rw [e]; rfl
theorem offL_next (L : List Lay) (j : Nat) (h : j < L.length) : offL L (j + 1) = offL L j + 1 + 2 * (L.getD j (0, [])).2.length := by
  unfold offL; rw [sumW_next L j h]; omega
theorem marksL_get (k : Int) (L : List Lay) (j : Nat) (h : j < L.length) : (marksL k L).getD j (0, []) = (k + offL L j, marksE (k + offL L j + 1) (L.getD j (0, [])).2.length) := by
  have e : (marksL k (L.take j)).length = j := by rw [marksL_len, List.length_take]; omega
  have hs := marksL_append k (L.take (j + 1)) (L.drop (j + 1))
  rw [List.take_append_drop, marksL_next k L j h] at hs
  rw [hs, List.getD_eq_getElem?_getD, List.append_assoc, List.getElem?_append_right (by rw [e]; exact Nat.le_refl _), e, Nat.sub_self]
  rfl
/-- Marked up to j, then as before. -/
def markLTo (k : Int) (L : List Lay) (j : Nat) : List Lay := marksL k (L.take j) ++ L.drop j
theorem markLTo_len (k : Int) (L : List Lay) (j : Nat) (h : j ≤ L.length) : (markLTo k L j).length = L.length := by
  simp [markLTo, marksL_len]; omega
theorem markLTo_zero (k : Int) (L : List Lay) : markLTo k L 0 = L := by simp [markLTo, marksL]
theorem markLTo_all (k : Int) (L : List Lay) : markLTo k L L.length = marksL k L := by simp [markLTo]
theorem markLTo_get (k : Int) (L : List Lay) (j : Nat) (h : j < L.length) : (markLTo k L j).getD j (0, []) = L.getD j (0, []) := by
  have e : (marksL k (L.take j)).length = j := by rw [marksL_len, List.length_take]; omega
  unfold markLTo
  rw [List.getD_eq_getElem?_getD, List.getElem?_append_right (by rw [e]; exact Nat.le_refl _), e, Nat.sub_self, List.getElem?_drop, Nat.add_zero, List.getD_eq_getElem?_getD]
theorem markLTo_set (k : Int) (L : List Lay) (j : Nat) (h : j < L.length) : (markLTo k L j).set j (k + offL L j, marksE (k + offL L j + 1) (L.getD j (0, [])).2.length) = markLTo k L (j + 1) := by
  have e : (marksL k (L.take j)).length = j := by rw [marksL_len, List.length_take]; omega
  unfold markLTo
  rw [marksL_next k L j h, List.set_append_right _ _ (by rw [e]; exact Nat.le_refl _), e, Nat.sub_self, List.drop_eq_getElem_cons h, List.set_cons_zero, List.append_assoc]
  rfl
theorem set_twice (L : List Lay) (j : Nat) (x y : Lay) : (L.set j x).set j y = L.set j y := by simp
/-- All layers are marked. -/
def MarkedL (w : World) (B T : Nat) (v : Value) (k : Int) (L : List Lay) (e : Ending) (w' : World) : Prop :=
  e = .returned (.int .i64 (k + offL L L.length)) ∧ OwnL w' B T 28 42 v (marksL k L) ∧ Turn B T w w'
set_option maxHeartbeats 1000000 in
theorem markLayerS_own (B T : Nat) (v : Value) (L : List Lay) (k : Int) (w : World) (h : OwnL w B T 28 42 v L) (hw : wtL L ≤ 4000000) (hk0 : 0 ≤ k) (hk1 : k ≤ 10000000) :
    Calls Try.prog 41 #[v, .int .i64 k] w (MarkedL w B T v k L) := by
  have hoff : ∀ j, j ≤ L.length → offL L j ≤ 8000000 := fun j hj => by
    unfold wtL at hw; have := sumW_take L j; unfold offL; omega
  have HOFF := Lib.hid hoff; clear hoff
  have HSW : Hid (∀ j, j < L.length → (L.getD j (0, [])).2.length ≤ 4000000) := Lib.hid (fun j hj => by have := sumW_len L j hj; unfold wtL at hw; omega)
  have hlen : L.length ≤ 4000000 := by unfold wtL at hw; omega
  clear hw
  rcases h.form with ⟨rfl, rfl⟩ | ⟨g, cap, rfl, hBg, hgT⟩
  · have HO := Lib.hid h
    clear h
    go_enter Try.func41, Try.ntmps41
    go_wp2
    go_loop [1, 5] (fun q i => q = .int .i64 k ∧ i = .int .i64 0) (fun _ _ => 0)
    case atStart => exact ⟨rfl, rfl⟩
    case round =>
      obtain ⟨rfl, rfl⟩ := hrel
      go_wp2
      go_ret
      exact ⟨by simp [offL, sumW], HO.out, Turn.refl _ _ _⟩
  · obtain ⟨n, hn⟩ : ∃ n, n = L.length := ⟨_, rfl⟩
    rw [← hn] at h hlen ⊢
    have HN := Lib.hid hn.symm
    clear hn
    have hm0 : OwnL w B T 28 42 (.slice (some ⟨g, 0, none⟩) n cap) (markLTo k L 0) := by rw [markLTo_zero]; exact h
    clear h
    go_enter Try.func41, Try.ntmps41
    go_wp2
    go_loopw [1, 5] (fun q i wr => ∃ j : Nat, j ≤ n ∧ i = .int .i64 j ∧ q = .int .i64 (k + offL L j) ∧ OwnL wr B T 28 42 (.slice (some ⟨g, 0, none⟩) n cap) (markLTo k L j) ∧ Turn B T w wr) (fun _ i _ => n - (intOf i).toNat)
    case atStart => exact ⟨0, Nat.zero_le _, rfl, by simp [offL, sumW], hm0, Turn.refl _ _ _⟩
    case round =>
      clear hm0
      obtain ⟨j, hj, rfl, rfl, hO, ht⟩ := hrel
      by_cases hlt : j < n
      · have hjL : j < L.length := by rw [HN.out]; exact hlt
        have hjM : j < (markLTo k L j).length := by rw [markLTo_len k L j (by omega)]; exact hjL
        obtain ⟨-, x0, y0, hx0, hy0, hf0, hf1, -, -, -⟩ := hO.cell j hjM
        have hof := HOFF.out j (by omega)
        have hon := offL_next L j hjL
        have hle := HSW.out j hjL
        have hO1 := hO.setInt j hjM (k + offL L j) (WalkArith.wf_i64 (by omega))
        have HT1 := Lib.hid (ht.setCell ⟨hBg, hgT⟩ (j * 2) (.int .i64 (k + offL L j)))
        obtain ⟨x, hcx, hox, hbx, hback⟩ := hO1.entsAt j (by rw [List.length_set]; exact hjM)
        have hget : ((markLTo k L j).set j (k + offL L j, ((markLTo k L j).getD j (0, [])).2)).getD j (0, []) = (k + offL L j, (L.getD j (0, [])).2) := by
          rw [getD_setL _ _ _ _ hjM, if_pos rfl, markLTo_get k L j hjL]
        rw [hget] at hox hback
        simp only [set_twice] at hback
        have HST := Lib.hid (markLTo_set k L j hjL)
        have HBK := Lib.hid hback
        have HBX := Lib.hid hbx
        have HOX := Lib.hid hox
        clear hback hbx hox hget hO1 hO ht hy0 hjM
        obtain ⟨q, hq⟩ : ∃ q, q = offL L j := ⟨_, rfl⟩
        rw [← hq] at hof hon HT1 HST HBK HOX hcx ⊢
        obtain ⟨ws, hws⟩ : ∃ ws, ws = (L.getD j (0, [])).2 := ⟨_, rfl⟩
        rw [← hws] at hon hle HST HOX
        have hon1 : offL L (j + 1) ≤ q + 1 + 2 * ws.length := by omega
        have hon2 : q + 1 + 2 * ws.length ≤ offL L (j + 1) := by omega
        clear hq hws hon
        have HS2 := Lib.hid (show offL L (j + 1) = q + 1 + 2 * ws.length by omega)
        go_wp2_with fail
        refine (markEntryS_own 0 ws.length x ws _ _ HOX.out rfl hle (by omega) (by omega)).mono ?_; rintro e w2 ⟨rfl, ho2, hg2⟩
        have hO2 := HBK.out w2 (marksE (k + q + 1) ws.length) (by rw [marksE_len]; exact ho2) (wfE_marks _ _ (by omega) (by omega) hle) (by rw [marksE_len]; exact hle) hg2
        rw [HST.out] at hO2
        have HF := Lib.hid hO2
        have HT2 := Lib.hid (HT1.out.trans (Turn.ofGrown hg2 HBX.out))
        clear hO2 hg2 ho2 hcx hx0
        go_wp2
        go_roundw
        case rel => exact ⟨j + 1, by omega, by go_num, by rw [HS2.out]; congr 1; omega, HF.out, HT2.out⟩
        case measure => simp [intOf]; omega
      · obtain rfl : j = n := by omega
        have e : markLTo k L j = marksL k L := by rw [← HN.out]; exact markLTo_all k L
        rw [e] at hO
        have HO := Lib.hid hO
        clear hO e
        go_wp2
        go_ret
        exact ⟨by rw [HN.out]; rfl, HO.out, ht⟩
set_option maxHeartbeats 1000000 in
theorem heldLayerS_any (a : Option Addr) (n cap : Nat) (L : List Lay) (k : Int) (w : World) (h : RowL w a n (marksL k L)) (hn : L.length = n) (hw : wtL L ≤ 4000000) (hk0 : 0 ≤ k) (hk1 : k ≤ 10000000) :
    Calls Try.prog 42 #[.slice a n cap, .int .i64 k] w fun e w' => e = .returned (.int .i64 (k + offL L n)) ∧ w = w' := by
  have hoff : ∀ j, j ≤ L.length → offL L j ≤ 8000000 := fun j hj => by
    unfold wtL at hw; have := sumW_take L j; unfold offL; omega
  have HOFF := Lib.hid hoff; clear hoff
  have HSW : Hid (∀ j, j < L.length → (L.getD j (0, [])).2.length ≤ 4000000) := Lib.hid (fun j hj => by have := sumW_len L j hj; unfold wtL at hw; omega)
  have hlen : n ≤ 4000000 := by unfold wtL at hw; omega
  clear hw
  obtain ⟨-, -, hc, -⟩ := h
  have HN := Lib.hid hn; clear hn
  by_cases h0 : 0 < n
  · obtain ⟨b, off, rfl, hcc⟩ := hc h0; clear hc; have hc := hcc; clear hcc
    go_enter Try.func42, Try.ntmps42
    go_wp2
    go_loop [1, 5] (fun q i => ∃ j : Nat, j ≤ n ∧ i = .int .i64 j ∧ q = .int .i64 (k + offL L j)) (fun _ i => n - (intOf i).toNat)
    case atStart => exact ⟨0, Nat.zero_le _, rfl, by simp [offL, sumW]⟩
    case round =>
      obtain ⟨j, hj, rfl, rfl⟩ := hrel
      by_cases hlt : j < n
      · have hjL : j < L.length := by rw [HN.out]; exact hlt
        obtain ⟨c1, x, c2, hs⟩ := hc j hlt
        rw [marksL_get k L j hjL] at c1 hs
        have hof := HOFF.out j (by omega)
        have hon := offL_next L j hjL
        have hle := HSW.out j hjL
        obtain ⟨a', n', cap', rfl, hre, -, -⟩ := hs
        have hn' := hre.1
        rw [marksE_len] at hn'
        rw [hn'] at hon hle hre
        obtain ⟨q, hq⟩ : ∃ q, q = offL L j := ⟨_, rfl⟩
        rw [← hq] at hof hon c1 hre ⊢
        simp only at c1 hre
        have HRE := Lib.hid hre
        have HS2 := Lib.hid hon
        clear hc hq hn' hre hon
        go_wp2_with fail
        refine (heldEntryS_any a' n' cap' _ _ HRE.out hle (by omega) (by omega)).mono ?_; rintro e w' ⟨rfl, rfl⟩
        have hnn : decide (k + (q : Int) + 1 + 2 * (n' : Int) < 0) = false := by simp; omega
        go_wp2
        go_round
        case rel => exact ⟨j + 1, by omega, by go_num, by rw [HS2.out]; congr 1; omega⟩
        case measure => simp [intOf]; omega
      · obtain rfl : j = n := by omega
        clear hc
        go_wp2
        go_ret
        exact ⟨rfl, rfl⟩
  · obtain rfl : n = 0 := by omega
    clear hc
    go_enter Try.func42, Try.ntmps42
    go_wp2
    go_loop [1, 5] (fun q i => q = .int .i64 k ∧ i = .int .i64 0) (fun _ _ => 0)
    case atStart => exact ⟨rfl, rfl⟩
    case round =>
      obtain ⟨rfl, rfl⟩ := hrel
      go_wp2
      go_ret
      exact ⟨by simp [offL, sumW], rfl⟩
set_option maxRecDepth 100000 in
set_option maxHeartbeats 1000000 in
theorem sameLayers_same (a a' : Option Addr) (n cap cap' : Nat) (L : List Lay) (w : World) (h : RowL w a n L) (h' : RowL w a' n L) :
    Calls Try.prog 25 #[.slice a n cap, .slice a' n cap'] w (BoolQ true w) := by
  obtain ⟨hl, hm, hc, -⟩ := h
  obtain ⟨-, -, hc', -⟩ := h'
  unfold maxLen at hm
  have HN := Lib.hid hl; clear hl
  by_cases h0 : 0 < n
  · obtain ⟨b, off, rfl, hcc⟩ := hc h0; clear hc; have hc := hcc; clear hcc
    obtain ⟨b', off', rfl, hcc⟩ := hc' h0; clear hc'; have hc' := hcc; clear hcc
    go_enter Try.func25, Try.ntmps25
    go_wp2
    go_loopw [5] (fun i wr => ∃ k : Nat, k ≤ n ∧ i = .int .i64 k ∧ Drawn w wr) (fun i _ => n - (intOf i).toNat)
    case atStart => exact ⟨0, Nat.zero_le _, rfl, Drawn.refl _⟩
    case round =>
      obtain ⟨k, hk, rfl, hd⟩ := hrel
      by_cases hlt : k < n
      · obtain ⟨c1, x, c2, hs⟩ := hc k hlt
        obtain ⟨c1', x', c2', hs'⟩ := hc' k hlt
        have hc1 := (hd.cell _).trans c1
        have hc2 := (hd.cell _).trans c2
        have hd1 := (hd.cell _).trans c1'
        have hd2 := (hd.cell _).trans c2'
        obtain ⟨a1, n1, cap1, rfl, hre, -, -⟩ := hs
        obtain ⟨a2, n2, cap2, rfl, hre', -, -⟩ := hs'
        obtain rfl : n1 = n2 := by rw [← hre.1, ← hre'.1]
        have HR1 := Lib.hid (hre.below (hd.below w.heap.size))
        have HR2 := Lib.hid (hre'.below (hd.below w.heap.size))
        clear hc hc' c1 c2 c1' c2' hre hre'
        obtain ⟨y, hy⟩ : ∃ y, y = (L.getD k (0, [])).1 := ⟨_, rfl⟩
        obtain ⟨l, hll⟩ : ∃ l, l = (L.getD k (0, [])).2 := ⟨_, rfl⟩
        rw [← hy] at hc1 hd1
        rw [← hll] at HR1 HR2
        clear hy hll
        have hne : (y != y) = false := by simp
        go_wp2
        go_quiet ((go_at_call 26; exact Calls.quiet_of (sameStore_same a1 a2 n1 cap1 cap2 l _ (HR1.out.drewN _) (HR2.out.drewN _))))
        go_wp2
        go_roundw
        case rel => exact ⟨k + 1, by omega, by go_num, hd.drewN _⟩
        case measure => simp [intOf]; omega
      · clear hc hc'
        go_wp2
        go_ret
        exact ⟨rfl, hd⟩
  · obtain rfl : n = 0 := by omega
    clear hc hc'
    go_enter Try.func25, Try.ntmps25
    go_wp2
    go_loop [5] (fun i => i = .int .i64 0) (fun _ => 0)
    case atStart => rfl
    case round =>
      subst hrel
      go_wp2
      go_ret
      exact ⟨rfl, Drawn.refl _⟩
end Go.Proofs.Ytcaombogffmopaa

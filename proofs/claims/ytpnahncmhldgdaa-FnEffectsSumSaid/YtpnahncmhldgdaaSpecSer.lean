/- The contracts of the model's serial runs: RunSerial, DoneCount, EffectsSum. -/
import Derived.Test.YtpnahncmhldgdaaSpecEff2
import Derived.Test.YtpnahncmhldgdaaSpecEff3
import Derived.Test.YtpnahncmhldgdaaSpecEff4
import Derived.Test.YtpnahncmhldgdaaSpecAct
import Derived.Test.YtpnahncmhldgdaaSpecS
import Derived.Test.YtpnahncmhldgdaaSerMem2
namespace Go.Proofs.Ytpnahncmhldgdaa
open Go.RowKit
set_option linter.unusedVariables false
theorem infoEffS : (Try.prog.info? 39).map (fun i => (i.zero, i.size, i.bytes)) = some (some (.agg #[.bool false, .slice none 0 0, .slice none 0 0]), 3, 56) := by kernel_rfl
theorem infoIntX : (Try.prog.info? 3).map (fun i => (i.zero, i.size, i.bytes)) = some (some (.int .i64 0), 1, 8) := by kernel_rfl
set_option maxHeartbeats 4000000 in
theorem doneCount_spec (a : Option Addr) (n cap : Nat) (L : List Eff) (w : World) (h : RowFs w a n L) :
    Calls Try.prog 22 #[.slice a n cap] w fun e w' => e = .returned (.int .i64 (doneN L : Nat)) ∧ w = w' := by
  obtain ⟨hl, hm, hc⟩ := h
  unfold maxLen at hm
  have HN := Lib.hid hl; clear hl
  have HLE : Hid (∀ k, doneN (L.take k) ≤ k) := Lib.hid (fun k => Nat.le_trans (doneN_le _) (by rw [List.length_take]; omega))
  have HNX : Hid (∀ k, k < n → doneN (L.take (k + 1)) = doneN (L.take k) + (if (L.getD k noEff).done then 1 else 0)) := Lib.hid (fun k hk => doneN_next L k (by rw [HN.out]; exact hk))
  by_cases h0 : 0 < n
  · obtain ⟨b, off, rfl, hcc⟩ := hc h0; clear hc; have hc := hcc; clear hcc
    go_enter Try.func22, Try.ntmps22
    go_wp2
    go_loop [3, 4] (fun q i => ∃ k : Nat, k ≤ n ∧ i = .int .i64 k ∧ q = .int .i64 (doneN (L.take k) : Nat)) (fun _ i => n - (intOf i).toNat)
    case atStart => exact ⟨0, Nat.zero_le _, rfl, by simp [doneN]⟩
    case round =>
      obtain ⟨k, hk, rfl, rfl⟩ := hrel
      have hle := HLE.out k
      by_cases hlt : k < n
      · obtain ⟨c1, -, -⟩ := hc k hlt
        have hnx := HNX.out k hlt
        obtain ⟨d, hd⟩ : ∃ d, d = (L.getD k noEff).done := ⟨_, rfl⟩
        rw [← hd] at c1 hnx
        have HNK := Lib.hid hnx
        obtain ⟨q, hq⟩ : ∃ q, q = doneN (L.take k) := ⟨_, rfl⟩
        rw [← hq] at hle HNK ⊢
        clear hc hd hnx hq
        cases d with
        | true =>
          go_wp2
          go_round
          case rel => exact ⟨k + 1, by omega, by go_num, by rw [HNK.out, if_pos rfl]; go_num⟩
          case measure => simp [intOf]; omega
        | false =>
          go_wp2
          go_round
          case rel => exact ⟨k + 1, by omega, by go_num, by rw [HNK.out]; simp⟩
          case measure => simp [intOf]; omega
      · obtain rfl : k = n := by omega
        have e : L.take k = L := List.take_of_length_le (by rw [HN.out]; omega)
        rw [e]
        clear hc e
        go_wp2
        go_ret
        exact ⟨rfl, rfl⟩
  · obtain rfl : n = 0 := by omega
    obtain rfl : L = [] := List.eq_nil_of_length_eq_zero HN.out
    clear hc
    go_enter Try.func22, Try.ntmps22
    go_wp2
    go_loop [3, 4] (fun q i => q = .int .i64 0 ∧ i = .int .i64 0) (fun _ _ => 0)
    case atStart => exact ⟨rfl, rfl⟩
    case round =>
      obtain ⟨rfl, rfl⟩ := hrel
      go_wp2
      go_ret
      exact ⟨rfl, rfl⟩
/-- The sums of the first k effects, as values. -/
def sumsV (L : List Eff) (k : Nat) : List Value := ((L.take k).map effSumM).map (Value.int .i64)
theorem sumsV_next (L : List Eff) (k : Nat) (h : k < L.length) : sumsV L k ++ [.int .i64 (effSumM (L.getD k noEff))] = sumsV L (k + 1) := by
  unfold sumsV; rw [takeF_one L k h]; simp
theorem sumsV_all (L : List Eff) : sumsV L L.length = (L.map effSumM).map (Value.int .i64) := by unfold sumsV; rw [List.take_length]
set_option maxHeartbeats 4000000 in
theorem effectsSum_spec (a : Option Addr) (n cap : Nat) (L : List Eff) (w : World) (h : RowFs w a n L) (hs : ∀ x ∈ L, x.rds.length + x.wrs.length ≤ 1500000) (hn : n ≤ 2000000) :
    Calls Try.prog 25 #[.slice a n cap] w (IntB (effsSumM L) w) := by
  obtain ⟨hl, -, hc⟩ := h
  have HN := Lib.hid hl; clear hl
  have HSZ : Hid (∀ k, k < n → (L.getD k noEff).rds.length + (L.getD k noEff).wrs.length ≤ 1500000) := Lib.hid (fun k hk => hs _ (getD_memF L k (by rw [HN.out]; exact hk)))
  have HNX : Hid (∀ k, k < n → sumsV L k ++ [.int .i64 (effSumM (L.getD k noEff))] = sumsV L (k + 1)) := Lib.hid (fun k hk => sumsV_next L k (by rw [HN.out]; exact hk))
  have HWF : Hid (∀ x ∈ L.map effSumM, (Lit.int .i64 x).wf = true) := Lib.hid (fun x hx => by
    obtain ⟨y, -, rfl⟩ := List.mem_map.1 hx
    rcases sumOfM_cases 3 (numsM y) with h1 | ⟨h1, h2, -⟩
    · exact WalkArith.wf_i64 (by unfold effSumM; omega)
    · exact WalkArith.wf_i64 (by unfold effSumM; omega))
  have HFIN : Hid (n ≤ 10 → sumOfM 4 (L.map effSumM) = effsSumM L) := Lib.hid (fun h => by unfold effsSumM; rw [if_pos (by rw [HN.out]; exact h)])
  have HBAD : Hid (¬ n ≤ 10 → effsSumM L = -1) := Lib.hid (fun h => by unfold effsSumM; rw [if_neg (by rw [HN.out]; exact h)])
  have hnil : Own (w.alloc (.cells #[] 3)) w.heap.size 3 1 (.slice (some ⟨w.heap.size, 0, none⟩) 0 0) 0 [] := own_lit 3 1 #[] 0 (Nat.le_refl _) (by simp) rfl
  have hb0 := (Below.refl w.heap.size w).alloc (Nat.le_refl _) (.cells #[] 3)
  clear hs
  go_enter Try.func25, Try.ntmps25
  go_wp2_with fail
  go_loopw [3, 4] (fun v i wr => ∃ k : Nat, k ≤ n ∧ i = .int .i64 k ∧ Own wr w.heap.size 3 1 v k (sumsV L k) ∧ Below w.heap.size w wr) (fun _ i _ => n - (intOf i).toNat)
  case atStart => exact ⟨0, Nat.zero_le _, rfl, hnil, hb0⟩
  case round =>
    clear hnil hb0
    obtain ⟨k, hk, rfl, ho, hb⟩ := hrel
    by_cases hlt : k < n
    · obtain ⟨b, off, rfl, hcc⟩ := hc (by omega)
      obtain ⟨c1, ⟨x, c2, hs⟩, y, c3, hs2⟩ := hcc k hlt
      have hbB : b < w.heap.size := World.block_lt_of_cell? w ⟨b, off + k * 3, none⟩ c1
      have hc1 := (hb.cell (p := ⟨b, off + k * 3, none⟩) hbB).trans c1
      have hc2 := (hb.cell (p := ⟨b, off + k * 3 + 1, none⟩) hbB).trans c2
      have hc3 := (hb.cell (p := ⟨b, off + k * 3 + 2, none⟩) hbB).trans c3
      obtain ⟨a', n', cap', rfl, hre, -, -⟩ := hs
      obtain ⟨a2, n2, cap2, rfl, hre2, -, -⟩ := hs2
      have hsz := HSZ.out k hlt
      have e1 := hre.1
      have e2 := hre2.1
      have hsz' : n' + n2 ≤ 1500000 := by omega
      have HRE := Lib.hid (show RowF wr a' n' a2 n2 (L.getD k noEff) from ⟨hre.below hb, hre2.below hb⟩)
      have HNK := Lib.hid (HNX.out k hlt)
      clear hc hcc c1 c2 c3 hre hre2 hsz e1 e2
      obtain ⟨z, hz⟩ : ∃ z, z = L.getD k noEff := ⟨_, rfl⟩
      rw [← hz] at hc1 HRE HNK
      clear hz
      go_wp2_with fail
      refine (effectSum_spec a' n' cap' a2 n2 cap2 z _ HRE.out hsz').mono ?_; rintro e w2 ⟨rfl, hb2⟩
      have ho2 := ho.below hb2
      have hb3 := hb.trans (hb2.mono hb.size)
      have hs3 := hb3.size
      obtain ⟨q, hq⟩ : ∃ q, q = effSumM z := ⟨_, rfl⟩
      rw [← hq] at HNK ⊢
      clear ho hb hb2 hq
      go_wp2_with (at_builtin; refine wpList_append_one rfl _ _ 74 rfl w.heap.size 3 _ (.int .i64 0) 1 8 Try.underlying74 infoIntX rfl (by decide) _ _ _ [.int .i64 q] (by rfl) ho2 (by rfl) rfl ?c1 ?c2 (by decide) ?c3 ?_)
      case c1 => intro u hu; simp at hu; subst hu; rfl
      case c2 => omega
      case c3 => exact hs3
      intro v3 w3 ho3 hg3
      rw [HNK.out] at ho3
      have HO := Lib.hid ho3
      have HB := Lib.hid ((hb3.alloc hs3 _).grown hg3 (by simp; omega) (fun p hp => (ho2.1.lt p hp).1))
      clear ho2 ho3 hg3 hb3
      go_wp2
      go_roundw
      case rel => exact ⟨k + 1, by omega, by go_num, HO.out, HB.out⟩
      case measure => simp [intOf]; omega
    · obtain rfl : k = n := by omega
      have e : sumsV L k = (L.map effSumM).map (Value.int .i64) := by rw [← HN.out]; exact sumsV_all L
      rw [e] at ho
      clear hc e
      by_cases h10 : k ≤ 10
      · have h10' : ¬ (10 : Int) < (k : Int) := by omega
        have HF := Lib.hid (HFIN.out h10)
        obtain ⟨a3, c3, rfl, hri⟩ := rowI_of_owns ho.1 (by unfold maxLen; omega) HWF.out
        clear ho
        go_wp2_with fail
        refine (sumOf_spec 4 _ k c3 (L.map effSumM) _ hri).mono ?_; rintro e w' ⟨rfl, rfl⟩
        rw [HF.out]
        go_wp2
        go_ret
        exact ⟨rfl, hb⟩
      · have h10' : (10 : Int) < (k : Int) := by omega
        have HF := Lib.hid (HBAD.out h10)
        clear ho
        go_wp2
        go_ret
        exact ⟨by rw [HF.out]; rfl, hb⟩
/-- A serial run under way. -/
def SerAt (w wr : World) (S : List Ent) (L : List Acn) (k : Nat) (v u : Value) : Prop :=
  OwnSF wr w.heap.size wr.heap.size 39 70 v u (serL S (L.take k)).1 (serL S (L.take k)).2 ∧ Below w.heap.size w wr
set_option maxHeartbeats 4000000 in
theorem runSerial_spec (a : Option Addr) (n cap : Nat) (S : List Ent) (b : Option Addr) (m c2 : Nat) (L : List Acn) (w : World) (h : RowE w a n S) (hz : a = none → cap = 0) (h2 : RowA w b m L) :
    Calls Try.prog 13 #[.slice a n cap, .slice b m c2] w (NewSF w 39 70 (serM S L).1 (serM S L).2) := by
  have hb0 := (Below.refl w.heap.size w).alloc (Nat.le_refl _) (.cells #[] 39)
  have hF0 : Own2 (w.alloc (.cells #[] 39)) w.heap.size (w.heap.size + 1) 39 3 (.slice (some ⟨w.heap.size, 0, none⟩) 0 0) 0 [] [] := own2_lit _ _ (Nat.le_refl _) (Nat.lt_succ_self _)
  have hs0 : (w.alloc (.cells #[] 39)).heap.size = w.heap.size + 1 := by simp
  have HS := Lib.hid (h.below hb0)
  have HA := Lib.hid (h2.below hb0)
  have HAW := Lib.hid h2
  have hm := h.2.1
  clear h h2
  go_enter Try.func13, Try.ntmps13
  go_wp2_with fail
  obtain ⟨w0, hw0⟩ : ∃ w0, w0 = w.alloc (.cells #[] 39) := ⟨_, rfl⟩
  rw [← hw0] at hb0 hF0 hs0 HS HA ⊢
  have HS0 := Lib.hid hs0
  clear hw0 hs0
  refine (storeValid_spec a n cap S _ HS.out).mono ?_; rintro e w1 ⟨rfl, hd1⟩
  have hb1' := hd1.below w0.heap.size
  have HS1 := Lib.hid (HS.out.below hb1')
  have HA1 := Lib.hid (HA.out.below hb1')
  have hF1 := hF0.below hb1'
  have hb1 := hb0.trans (hb1'.mono hb0.size)
  have hs1 := hb1'.size
  clear HS HA hF0 hb0 hb1' hd1
  have hNO : (storeB S && actsB L) = false → serM S L = ([], []) := serM_no
  have HNO := Lib.hid hNO
  clear hNO
  have hok : ∀ w5 w6, Below w.heap.size w w5 → w0.heap.size ≤ w5.heap.size → Own2 w5 w.heap.size (w.heap.size + 1) 39 3 (.slice (some ⟨w.heap.size, 0, none⟩) 0 0) 0 [] [] → w6 = w5.alloc (.cells #[] 70) →
      OwnSF w6 w.heap.size w6.heap.size 39 70 (.slice (some ⟨w5.heap.size, 0, none⟩) 0 0) (.slice (some ⟨w.heap.size, 0, none⟩) 0 0) [] [] ∧ Below w.heap.size w w6 := fun w5 w6 hb hl hF e => by
    have hs := HS0.out
    subst e
    refine ⟨⟨(own_lit 70 2 #[] 0 hb.size (by simp) rfl).1, fun e he => (by cases he), fun p hp => (by simp [Value.ownBlock] at hp; simp; omega), by simp, [], (hF.alloc _).mono (Nat.le_refl _) (by simp; omega), fun y hy p hp hq => ?_⟩, hb.alloc hb.size _⟩
    simp at hy; subst hy
    simp [blk, Value.ownBlock] at hp hq
    omega
  have HOK := Lib.hid hok
  clear hok
  cases hS : storeB S with
  | false =>
    have HE := Lib.hid (HNO.out (by rw [hS]; rfl))
    obtain ⟨hO, hB⟩ := HOK.out w1 _ hb1 hs1 hF1 rfl
    have HO := Lib.hid hO
    have HB := Lib.hid hB
    clear hS hF1 hb1 hO hB HNO HOK
    go_wp2
    go_ret2
    exact ⟨.slice (some ⟨w1.heap.size, 0, none⟩) 0 0, .slice (some ⟨w.heap.size, 0, none⟩) 0 0, rfl, by rw [HE.out]; exact HO.out, HB.out⟩
  | true =>
    have HSB := Lib.hid hS
    clear hS
    go_wp2_with fail
    refine (actionsValid_spec b m c2 L _ HA1.out).mono ?_; rintro e w2 ⟨rfl, hb2'⟩
    have HS2 := Lib.hid (HS1.out.below hb2')
    have HA2 := Lib.hid (HA1.out.below hb2')
    have hF2 := hF1.below hb2'
    have hb2 := hb1.trans (hb2'.mono hb1.size)
    have hs2 := Nat.le_trans hs1 hb2'.size
    clear HS1 HA1 hF1 hb1 hb2' hs1
    cases hA : actsB L with
    | false =>
      have HE := Lib.hid (HNO.out (by rw [HSB.out, hA]; rfl))
      obtain ⟨hO, hB⟩ := HOK.out w2 _ hb2 hs2 hF2 rfl
      have HO := Lib.hid hO
      have HB := Lib.hid hB
      clear hA hF2 hb2 hO hB HNO HOK
      go_wp2
      go_ret2
      exact ⟨.slice (some ⟨w2.heap.size, 0, none⟩) 0 0, .slice (some ⟨w.heap.size, 0, none⟩) 0 0, rfl, by rw [HE.out]; exact HO.out, HB.out⟩
    | true =>
      have HSY := Lib.hid (serM_yes HSB.out hA)
      have HM10 := Lib.hid (actsB_true hA).1
      clear hA HNO HOK
      have hS32 := store_len HSB.out
      have hSl := HS2.out.1
      have hnil : a = none → n = 0 ∧ cap = 0 := fun e => ⟨by
        rcases Nat.eq_zero_or_pos n with h | h
        · exact h
        · obtain ⟨b', o', he, -⟩ := HS2.out.2.2.1 h; (rw [e] at he; cases he), hz e⟩
      have HNL := Lib.hid hnil
      have HLN := Lib.hid (show (flatE S).length = n * 2 by rw [flatE_len, hSl])
      have ho := own_lit (w := w2) (B := w2.heap.size) 70 2 #[] 0 (Nat.le_refl _) (by unfold maxLen; omega) rfl
      have hb3 := (Below.refl w2.heap.size w2).alloc (Nat.le_refl _) (.cells #[] 70)
      have HR3 := Lib.hid (HS2.out.below hb3)
      have hn32 : n ≤ 32 := by omega
      have HSL := Lib.hid hSl
      have hwfS := Lib.hid HS2.out.2.2.2
      have hs0 := HS0.out
      have hwl : w.heap.size < w2.heap.size := by omega
      clear hnil hSl hS32 hz hs0 hs2
      go_wp2_with (first | (at_builtin; refine wpList_append_rows rfl _ _ 23 rfl w2.heap.size 70 (.agg #[.int .i64 0, .int .i64 0]) 2 16 Try.underlying23 infoEntF rfl (by decide) _ 0 [] (flatE S) (by rfl) ho a n cap (by rfl) HNL.out HLN.out HR3.out.news (flatE_oneCell S) (by omega) (by decide) (by simp) ?_; intro v5 w5 ho5 hg5; have hb5 := hb3.grown hg5 (by simp) (fun q hq => (ho.1.lt q hq).1)))
      rw [Nat.zero_add, List.nil_append] at ho5
      have hSA : SerAt w w5 S L 0 v5 (.slice (some ⟨w.heap.size, 0, none⟩) 0 0) := by
        have hb25 := hb2.trans (hb5.mono hb2.size)
        rw [← HSL.out] at ho5
        refine ⟨⟨owns_mono ho5.1 hb2.size, hwfS.out, fun p hp => (ho5.1.lt p hp).2, by simp [serL], [], (hF2.below hb5).mono (Nat.le_refl _) (by have := hb5.size; omega), fun y hy p hp hq => ?_⟩, hb25⟩
        simp at hy; subst hy
        have h1 := (ho5.1.lt p hp).1
        simp [blk] at hq
        omega
      clear hb2 hF2 ho hb3 ho5 hg5 hb5 hwl
      go_loopw [6, 7, 8] (fun u v i wr => ∃ k : Nat, k ≤ m ∧ i = .int .i64 k ∧ SerAt w wr S L k v u) (fun _ _ i _ => m - (intOf i).toNat)
      case atStart => exact ⟨0, Nat.zero_le _, rfl, hSA⟩
      case round =>
        clear hSA
        obtain ⟨k, hk, rfl, hSF, hb⟩ := hrel
        have hkl := serL_len S (L.take k)
        have hTB := store_ser (L.take k) HSB.out
        have hT32 := store_len hTB
        have hm10 := HM10.out
        have hLm := HAW.out.1
        rw [List.length_take] at hkl
        have hk10 : k ≤ 10 := by omega
        have hkl2 : (serL S (L.take k)).2.length ≤ 10 := by omega
        by_cases hlt : k < m
        · have HNX := Lib.hid (serL_next S L k (by omega))
          obtain ⟨b', off, rfl, hcc⟩ := HAW.out.2.2.1 (by omega)
          obtain ⟨c1, c2', c3, c4⟩ := hcc k hlt
          have hbB : b' < w.heap.size := World.block_lt_of_cell? w ⟨b', off + k * 4, none⟩ c1
          have d1 := (hb.cell (p := ⟨b', off + k * 4, none⟩) hbB).trans c1
          have d2 := (hb.cell (p := ⟨b', off + k * 4 + 1, none⟩) hbB).trans c2'
          have d3 := (hb.cell (p := ⟨b', off + k * 4 + 2, none⟩) hbB).trans c3
          have d4 := (hb.cell (p := ⟨b', off + k * 4 + 3, none⟩) hbB).trans c4
          obtain ⟨T, hT⟩ : ∃ T, T = (serL S (L.take k)).1 := ⟨_, rfl⟩
          obtain ⟨E, hE⟩ : ∃ E, E = (serL S (L.take k)).2 := ⟨_, rfl⟩
          rw [← hT, ← hE] at hSF HNX
          rw [← hT] at hT32
          rw [← hE] at hkl2
          obtain ⟨p, q, r, t, hx⟩ : ∃ p q r t, L.getD k noA = ⟨p, q, r, t⟩ := ⟨_, _, _, _, rfl⟩
          rw [hx] at d1 d2 d3 d4 HNX
          simp only at d1 d2 d3 d4
          obtain ⟨av, cv, rfl, hrv, zv⟩ := hSF.row (by omega)
          obtain ⟨au, cu, rfl, -, -, -⟩ := rowFs_of_own hSF.effs
          have HZ := Lib.hid zv
          clear hcc c1 c2' c3 c4 hT hE hx hTB hkl zv
          go_wp2_with fail
          refine (runAction_spec _ _ cv T p q r t _ hrv).mono ?_; rintro e w3 ⟨v3, rfl, hF3, hb3⟩
          have hXr := runM_rlen T ⟨p, q, r, t⟩
          have hXw := runM_wlen T ⟨p, q, r, t⟩
          obtain ⟨X, hX⟩ : ∃ X, X = runM T ⟨p, q, r, t⟩ := ⟨_, rfl⟩
          rw [← hX] at hF3 hXr hXw HNX
          clear hX
          obtain ⟨ax, cx, bx, dx, rfl, hf3, -⟩ := hF3.rows (by omega) (by omega)
          have hN4 := eAt_new w3 39 X.done (.slice ax X.rds.length cx) (.slice bx X.wrs.length dx)
          have hbl := (Below.refl w3.heap.size w3).alloc (Nat.le_refl _) (.cells #[.bool X.done, .slice ax X.rds.length cx, .slice bx X.wrs.length dx] 39)
          have hrv4 := hrv.below (hb3.trans (hbl.mono hb3.size))
          have hf4 := hf3.below hbl
          have hs34 := hbl.size
          clear hrv hf3
          go_wp2_with fail
          obtain ⟨w4, hw4⟩ : ∃ w4, w4 = w3.alloc (.cells #[.bool X.done, .slice ax X.rds.length cx, .slice bx X.wrs.length dx] 39) := ⟨_, rfl⟩
          rw [← hw4] at hN4 hbl hrv4 hf4 hs34 ⊢
          clear hw4
          refine (applyEffect_spec _ _ cv T _ _ _ _ _ _ _ X.wrs _ hrv4 hf4.2 HZ.out).mono ?_; rintro e w5 ⟨v5, rfl, ho5, hw5, hb5⟩
          have hN5 := hN4.below hb5
          have hb35 := hbl.trans (hb5.mono hbl.size)
          have hbw5 := hb.trans ((hb3.trans (hb35.mono hb3.size)).mono hb.size)
          have hTl : (applyM T X.wrs).length ≤ 4000000 := by
            cases hT1 : storeB T with
            | false => rw [applyM_no (by rw [hT1]; rfl)]; simp
            | true =>
              cases hW1 : writesB X.wrs with
              | false => rw [applyM_no (by rw [hT1, hW1]; rfl)]; simp
              | true => rw [applyM_yes hT1 hW1]; have := store_len (ok_applyM hT1 hW1); omega
          obtain ⟨T', hT'⟩ : ∃ T', T' = applyM T X.wrs := ⟨_, rfl⟩
          rw [← hT'] at ho5 hw5 HNX hTl
          clear hT'
          obtain ⟨g5, c5, rfl, -, -⟩ := ho5.slice
          obtain ⟨xs, hO, hub, h6, hnw, hap⟩ := ser_ready hSF hF3 (by omega) (by omega) hb3 hb35 ho5.1 hs34
          have hws := hb.size
          have hs5 := (hb3.trans (hb35.mono hb3.size)).size
          have hs45 : w.heap.size ≤ w4.heap.size := by have := hb3.size; omega
          have HUB := Lib.hid hub
          have H6 := Lib.hid h6
          have HO5 := Lib.hid ho5.1
          have HBW := Lib.hid hbw5
          obtain ⟨e0, e1, e2⟩ := hN5.1
          clear hSF hF3 hb3 hb hN4 hrv4 hf4 hbl hs34 hb5 hb35 hub h6 ho5 hbw5 d1 d2 d3 d4
          go_wp2_with (at_builtin; refine wpList_append_el2 rfl _ _ 27 rfl w.heap.size wr.heap.size 39 _ (.agg #[.bool false, .slice none 0 0, .slice none 0 0]) 3 56 Try.underlying27 infoEffS rfl (by decide) _ E.length _ xs (effC 70 X) [.bool X.done, .slice ax X.rds.length cx, .slice bx X.wrs.length dx] (by rfl) hO (by rfl) rfl rfl hnw hap ?c1 (by decide) ?c2 ?c3 ?c4 ?_)
          case c1 => omega
          case c2 => omega
          case c3 => exact hws
          case c4 => exact hs5
          intro u7 w7 ho7 hne7 hb7 hsz7 hg7 hat7
          have hSF7 := OwnSF.snoc (T := 0) (owns_mono HO5.out hs45) hw5 (by omega) H6.out HUB.out ho7 hg7 hat7
          have hb77 := HBW.out.trans hb7
          have hSA7 : SerAt w w7 S L (k + 1) (.slice (some ⟨g5, 0, none⟩) T'.length c5) u7 := ⟨by rw [HNX.out]; exact hSF7, hb77⟩
          have HSA := Lib.hid hSA7
          clear hO hnw hap ho7 hne7 hb7 hsz7 hg7 hat7 hSF7 hb77 hSA7 e0 e1 e2
          go_wp2
          go_roundw
          case rel => exact ⟨k + 1, by omega, by go_num, HSA.out⟩
          case measure => simp [intOf]; omega
        · obtain rfl : k = m := by omega
          have e : L.take k = L := List.take_of_length_le (by omega)
          rw [e] at hSF
          have HSF := Lib.hid hSF
          clear e hSF hkl hkl2 hT32 hTB
          go_wp2
          go_ret2
          exact ⟨u7, u6, rfl, by rw [HSY.out]; exact HSF.out, hb⟩
end Go.Proofs.Ytpnahncmhldgdaa

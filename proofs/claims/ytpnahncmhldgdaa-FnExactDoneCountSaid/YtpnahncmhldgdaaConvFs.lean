/- The contracts of the laws' own helpers over lists of effects: weights, copies, comparisons. -/
import Derived.Test.YtpnahncmhldgdaaConvEff
import Derived.Test.YtpnahncmhldgdaaToEff
import Derived.Test.YtpnahncmhldgdaaConvF
import Derived.Test.YtpnahncmhldgdaaSerMem2
import Derived.StillTailTactics
namespace Go.Proofs.Ytpnahncmhldgdaa
open Go.RowKit
set_option linter.unusedVariables false
theorem infoEffC : (Try.prog.info? 39).map (fun i => (i.zero, i.size, i.bytes)) = some (some (.agg #[.bool false, .slice none 0 0, .slice none 0 0]), 3, 56) := by kernel_rfl
/-- How many pairs all effects have. -/
def sumX : List Eff → Nat
  | [] => 0
  | x :: r => x.rds.length + x.wrs.length + sumX r
theorem sumX_append (l m : List Eff) : sumX (l ++ m) = sumX l + sumX m := by
  induction l with
  | nil => simp [sumX]
  | cons a r ih => simp only [List.cons_append, sumX, ih]; omega
theorem sumX_next (L : List Eff) (k : Nat) (h : k < L.length) : sumX (L.take (k + 1)) = sumX (L.take k) + (L.getD k noEff).rds.length + (L.getD k noEff).wrs.length := by
  rw [takeF_one L k h, sumX_append]; simp [sumX]; omega
theorem sumX_take (L : List Eff) (k : Nat) : sumX (L.take k) ≤ sumX L := by
  have h := sumX_append (L.take k) (L.drop k)
  rw [List.take_append_drop] at h; omega
theorem sumX_len (L : List Eff) (k : Nat) (h : k < L.length) : (L.getD k noEff).rds.length + (L.getD k noEff).wrs.length ≤ sumX L := by
  have := sumX_next L k h; have := sumX_take L (k + 1); omega
/-- How much all effects weigh. -/
def wtX (L : List Eff) : Nat := L.length + sumX L
/-- What is left when all effects are weighed, or -1. -/
def szX (L : List Eff) (left : Int) : Int := if (wtX L : Int) ≤ left then left - wtX L else -1
theorem szX_yes {L : List Eff} {left : Int} (h : (wtX L : Int) ≤ left) : szX L left = left - wtX L := by unfold szX; rw [if_pos h]
theorem szX_no {L : List Eff} {left : Int} (h : left < (wtX L : Int)) : szX L left = -1 := by unfold szX; rw [if_neg (by omega)]
set_option maxHeartbeats 1000000 in
theorem szEffectS_any (a : Option Addr) (n cap : Nat) (L : List Eff) (left : Int) (w : World) (h : RowFs w a n L) (h0 : 0 ≤ left) (h1 : left ≤ 1048576) :
    Calls Try.prog 45 #[.slice a n cap, .int .i64 left] w (IntW (szX L left) w) := by
  obtain ⟨hl, hm, hc⟩ := h
  unfold maxLen at hm
  have HL := Lib.hid hl; clear hl
  have HW : Hid (wtX L = n + sumX L) := Lib.hid (by rw [wtX, HL.out])
  have HS : Hid (∀ k, sumX (L.take k) ≤ sumX L) := Lib.hid (sumX_take L)
  have HNX : Hid (∀ k, k < n → sumX (L.take (k + 1)) = sumX (L.take k) + (L.getD k noEff).rds.length + (L.getD k noEff).wrs.length) := Lib.hid (fun k hk => sumX_next L k (by rw [HL.out]; exact hk))
  by_cases hn : (n : Int) ≤ left
  · by_cases h00 : 0 < n
    · obtain ⟨b, off, rfl, hcc⟩ := hc h00; clear hc; have hc := hcc; clear hcc
      have hbB : b < w.heap.size := World.block_lt_of_cell? w ⟨b, off + 0 * 3, none⟩ (hc 0 h00).1
      go_enter Try.func45, Try.ntmps45
      go_wp2
      go_loopw [1, 5] (fun q i wr => ∃ k : Nat, k ≤ n ∧ i = .int .i64 k ∧ q = .int .i64 (left - n - (sumX (L.take k) : Nat)) ∧ (n : Int) + (sumX (L.take k) : Nat) ≤ left ∧ Below w.heap.size w wr) (fun _ i _ => n - (intOf i).toNat)
      case atStart => exact ⟨0, Nat.zero_le _, rfl, by simp [sumX], by simp [sumX]; omega, Below.refl _ _⟩
      case round =>
        obtain ⟨k, hk, rfl, rfl, hle, hb⟩ := hrel
        by_cases hlt : k < n
        · obtain ⟨c1, ⟨x, c2, hs⟩, y, c3, hs2⟩ := hc k hlt
          have hc1 := (hb.cell (p := ⟨b, off + k * 3, none⟩) hbB).trans c1
          have hc2 := (hb.cell (p := ⟨b, off + k * 3 + 1, none⟩) hbB).trans c2
          have hc3 := (hb.cell (p := ⟨b, off + k * 3 + 2, none⟩) hbB).trans c3
          obtain ⟨a', n', cap', rfl, hre, -, -⟩ := hs
          obtain ⟨a2, n2, cap2, rfl, hre2, -, -⟩ := hs2
          have hln := HNX.out k hlt
          have hst := HS.out (k + 1)
          rw [hre.1, hre2.1] at hln
          have HM := Lib.hid hre.2.1
          have HM2 := Lib.hid hre2.2.1
          clear hc c1 c2 c3 hre hre2
          obtain ⟨s, hs⟩ : ∃ s, s = sumX (L.take k) := ⟨_, rfl⟩
          obtain ⟨s', hs'⟩ : ∃ s', s' = sumX (L.take (k + 1)) := ⟨_, rfl⟩
          obtain ⟨dn, hdn⟩ : ∃ dn, dn = (L.getD k noEff).done := ⟨_, rfl⟩
          rw [← hs, ← hs'] at hln
          rw [← hdn] at hc1
          have hln1 : s' ≤ s + n' + n2 := by omega
          have hln2 : s + n' + n2 ≤ s' := by omega
          clear hln
          rw [← hs] at hle ⊢
          rw [← hs'] at hst
          have HS1 := Lib.hid hs'
          clear hs hs' hdn
          go_wp2_with fail
          refine (szEffect_any dn a' n' cap' a2 n2 cap2 _ _ (by omega) (by omega) HM.out HM2.out).mono ?_; rintro e w2 ⟨rfl, hb2⟩
          have hb3 := hb.trans (hb2.mono hb.size)
          by_cases hq : (n' : Int) + n2 ≤ left - n - s
          · rw [if_pos hq]
            have hbq : decide (left - (n : Int) - (s : Int) - (n' : Int) - (n2 : Int) < 0) = false := by simp; omega
            go_wp2
            go_roundw
            case rel => exact ⟨k + 1, by omega, by go_num, by rw [← HS1.out]; congr 1; omega, by rw [← HS1.out]; omega, hb3⟩
            case measure => simp [intOf]; omega
          · rw [if_neg hq]
            have HR : Hid (szX L left = -1) := Lib.hid (szX_no (by rw [HW.out]; omega))
            clear hq
            go_wp2
            go_ret
            exact ⟨by rw [HR.out]; rfl, hb3⟩
        · obtain rfl : k = n := by omega
          have e : L.take k = L := List.take_of_length_le (by rw [HL.out]; omega)
          rw [e] at hle ⊢
          have HR : Hid (szX L left = left - (k : Int) - (sumX L : Int)) := Lib.hid (by rw [szX_yes (by rw [HW.out]; omega), HW.out]; omega)
          clear hc e
          go_wp2
          go_ret
          exact ⟨by rw [HR.out]; rfl, hb⟩
    · obtain rfl : n = 0 := by omega
      obtain rfl : L = [] := List.eq_nil_of_length_eq_zero HL.out
      clear hc
      have HR : Hid (szX [] left = left) := Lib.hid (by rw [szX_yes (by simp [wtX, sumX]; omega)]; simp [wtX, sumX])
      have hnn : decide (left < 0) = false := by simp; omega
      go_enter Try.func45, Try.ntmps45
      go_wp2
      go_loop [1, 5] (fun q i => q = .int .i64 left ∧ i = .int .i64 0) (fun _ _ => 0)
      case atStart => exact ⟨by simp, rfl⟩
      case round =>
        obtain ⟨rfl, rfl⟩ := hrel
        go_wp2
        go_ret
        exact ⟨by rw [HR.out]; rfl, Below.refl _ _⟩
  · have HR : Hid (szX L left = -1) := Lib.hid (szX_no (by rw [HW.out]; omega))
    have hbq : decide (left - (n : Int) < 0) = true := by simp; omega
    clear hc
    go_enter Try.func45, Try.ntmps45
    go_wp2
    go_ret
    exact ⟨by rw [HR.out]; rfl, Below.refl _ _⟩
theorem toEffect_w (x : Eff) (a : Option Addr) (n c : Nat) (b : Option Addr) (m c2 : Nat) (w : World) (h : RowF w a n b m x) (hn : n ≤ 1048576) (hm : m ≤ 1048576) :
    Calls Try.prog 80 #[.agg #[.bool x.done, .slice a n c, .slice b m c2]] w (NewF w 70 x) := toEffect_any x.done a n c b m c2 x.rds x.wrs w h hn hm
set_option maxHeartbeats 4000000 in
theorem toEffectS_any (a : Option Addr) (n cap : Nat) (L : List Eff) (w : World) (h : RowFs w a n L) (hn : wtX L ≤ 1048576) :
    Calls Try.prog 46 #[.slice a n cap] w (NewFs w 39 70 L) := by
  obtain ⟨hl, -, hc⟩ := h
  have HN := Lib.hid hl; clear hl
  have HSW : Hid (∀ k, k < n → (L.getD k noEff).rds.length + (L.getD k noEff).wrs.length ≤ 1048576) := Lib.hid (fun k hk => by have := sumX_len L k (by rw [HN.out]; exact hk); unfold wtX at hn; omega)
  have hn1 : n ≤ 1048576 := by unfold wtX at hn; rw [HN.out] at hn; omega
  clear hn
  obtain ⟨i0, hi, hz0, hz1, hz2⟩ := info_parts infoEffC
  go_enter Try.func46, Try.ntmps46
  go_wp2_with (first | (at_make; refine wpList_make_full _ rfl (.tmp 6) (.tmp 6) 27 rfl w.heap.size 39 i0 (.agg #[.bool false, .slice none 0 0, .slice none 0 0]) 3 Try.underlying27 hi hz0 hz1 .i64 .i64 n n n rfl rfl rfl rfl (by rw [hz2]; omega) (by unfold maxLen; omega) (Nat.le_refl _) ?_; intro w2 hown hgrow; clear hi hz0 hz1 hz2))
  have hb2 : Below w.heap.size w w2 := (Below.refl _ _).grown hgrow (Nat.le_refl _) (fun k hk => by simp at hk)
  have hg2 : w.heap.size < w2.heap.size := (hown.lt w.heap.size rfl).2
  have ho2 := own2_made3 (T := w2.heap.size) (.bool false) (.slice none 0 0) (.slice none 0 0) (.bool false) (.ents 70 []) (.ents 70 []) (oeC 70) none rfl hown (fun b hb => by simp [blk] at hb; omega) rfl (ents_nil _ _) (ents_nil _ _) rfl rfl rfl (oeC_len _)
  have hm0 : FillF w2 w.heap.size w.heap.size n 39 70 L 0 := ⟨_, by rw [fillO_zero, HN.out]; exact ho2⟩
  clear hown hgrow ho2
  by_cases h0 : 0 < n
  · obtain ⟨b, off, rfl, hcc⟩ := hc h0; clear hc; have hc := hcc; clear hcc
    have hbB : b < w.heap.size := World.block_lt_of_cell? w ⟨b, off + 0 * 3, none⟩ (hc 0 h0).1
    go_loopw [4] (fun i wr => ∃ k : Nat, k ≤ n ∧ i = .int .i64 k ∧ FillF wr w.heap.size w.heap.size n 39 70 L k ∧ Below w.heap.size w wr) (fun i _ => n - (intOf i).toNat)
    case atStart => exact ⟨0, Nat.zero_le _, rfl, hm0, hb2⟩
    case round =>
      clear hm0 hb2 hg2
      obtain ⟨k, hk, rfl, hfw, hb⟩ := hrel
      by_cases hlt : k < n
      · obtain ⟨c1, ⟨x, c2, hs⟩, y, c3, hs2⟩ := hc k hlt
        have hc1 := (hb.cell (p := ⟨b, off + k * 3, none⟩) hbB).trans c1
        have hc2 := (hb.cell (p := ⟨b, off + k * 3 + 1, none⟩) hbB).trans c2
        have hc3 := (hb.cell (p := ⟨b, off + k * 3 + 2, none⟩) hbB).trans c3
        obtain ⟨a', n', cap', rfl, hre, -, -⟩ := hs
        obtain ⟨a2, n2, cap2, rfl, hre2, -, -⟩ := hs2
        have hle := HSW.out k hlt
        obtain ⟨xs, hO⟩ := hfw
        have hkL : k < L.length := by rw [HN.out]; exact hlt
        have HST := Lib.hid (fun (W : World) (p q : Value) (h : Own2 W w.heap.size wr.heap.size 39 3 (.slice (some ⟨w.heap.size, 0, none⟩) n n) n ((fillO L k).flatMap (oeC 70)) xs) (hv : OwnF W wr.heap.size 70 (.agg #[.bool (L.getD k noEff).done, p, q]) (L.getD k noEff)) (h2 : wr.heap.size ≤ W.heap.size) => FillF.store h hkL p q hv (by omega) (by omega) hb.size h2)
        have HO := Lib.hid hO
        have HRE := Lib.hid (show RowF wr a' n' a2 n2 (L.getD k noEff) from ⟨hre.below hb, hre2.below hb⟩)
        have hn' := hre.1
        have hn2 := hre2.1
        have hle1 : n' ≤ 1048576 := by omega
        have hle2 : n2 ≤ 1048576 := by omega
        have hgw : w.heap.size < wr.heap.size := (hO.1.lt w.heap.size rfl).2
        clear hc c1 c2 c3 hre hre2 hO hn' hn2 hkL
        obtain ⟨z, hz⟩ : ∃ z, z = L.getD k noEff := ⟨_, rfl⟩
        rw [← hz] at hc1 HST hle HRE
        have HZ := Lib.hid hz
        clear hz
        go_wp2_with fail
        refine (toEffect_w z a' n' cap' a2 n2 cap2 _ HRE.out hle1 hle2).mono ?_; rintro e w3 ⟨v3, rfl, ho3, hb3⟩
        obtain ⟨a4, c4, a5, c5, rfl, -⟩ := ho3.rows (by omega) (by omega)
        have hO3 := HO.out.below hb3
        obtain ⟨q0, ⟨q1, q1'⟩, ⟨q2, q2'⟩, q3, q4, q5⟩ := FillF.next hO3 (show k < L.length by rw [HN.out]; exact hlt)
        have HF := Lib.hid (HST.out w3 _ _ hO3 ho3 hb3.size)
        have HB := Lib.hid (hb.trans (hb3.mono hb.size))
        clear hO3 ho3 hb3 hb
        go_wp2
        go_roundw
        case rel => exact ⟨k + 1, by omega, by go_num, HF.out, below_set3 HB.out (Nat.le_refl _) (k * 3) (k * 3 + 1) (k * 3 + 2) _ _ _⟩
        case measure => simp [intOf]; omega
      · obtain rfl : k = n := by omega
        have e : (fillO L k).flatMap (oeC 70) = L.flatMap (effC 70) := by rw [← HN.out, fillO_all]; exact oeC_all _ L
        obtain ⟨xs, hO⟩ := hfw
        rw [e] at hO
        have HO2 := Lib.hid hO
        clear hO e hc
        go_wp2
        go_ret
        exact ⟨_, rfl, ⟨by rw [HN.out]; omega, xs, by rw [HN.out]; exact HO2.out⟩, hb⟩
  · obtain rfl : n = 0 := by omega
    obtain rfl : L = [] := List.eq_nil_of_length_eq_zero HN.out
    have HM := Lib.hid hm0
    clear hc hm0
    go_loopw [4] (fun i wr => i = .int .i64 0 ∧ wr = w2) (fun _ _ => 0)
    case atStart => exact ⟨rfl, rfl⟩
    case round =>
      obtain ⟨rfl, rfl⟩ := hrel
      go_wp2
      go_ret
      exact ⟨_, rfl, ⟨by simp, HM.out⟩, hb2⟩
set_option maxRecDepth 100000 in
set_option maxHeartbeats 1000000 in
theorem eqEffectS_same (a a' : Option Addr) (n cap cap' : Nat) (L : List Eff) (w : World) (h : RowFs w a n L) (h' : RowFs w a' n L) :
    Calls Try.prog 38 #[.slice a n cap, .slice a' n cap'] w fun e w' => e = .returned (.bool true) ∧ Below w.heap.size w w' := by
  obtain ⟨hl, hm, hc⟩ := h
  obtain ⟨-, -, hc'⟩ := h'
  unfold maxLen at hm
  have HN := Lib.hid hl; clear hl
  by_cases h0 : 0 < n
  · obtain ⟨b, off, rfl, hcc⟩ := hc h0; clear hc; have hc := hcc; clear hcc
    obtain ⟨b', off', rfl, hcc⟩ := hc' h0; clear hc'; have hc' := hcc; clear hcc
    have hbB : b < w.heap.size := World.block_lt_of_cell? w ⟨b, off + 0 * 3, none⟩ (hc 0 h0).1
    have hbB' : b' < w.heap.size := World.block_lt_of_cell? w ⟨b', off' + 0 * 3, none⟩ (hc' 0 h0).1
    go_enter Try.func38, Try.ntmps38
    go_wp2
    go_loopw [5] (fun i wr => ∃ k : Nat, k ≤ n ∧ i = .int .i64 k ∧ Below w.heap.size w wr) (fun i _ => n - (intOf i).toNat)
    case atStart => exact ⟨0, Nat.zero_le _, rfl, Below.refl _ _⟩
    case round =>
      obtain ⟨k, hk, rfl, hb⟩ := hrel
      by_cases hlt : k < n
      · obtain ⟨c1, ⟨x, c2, hs⟩, y, c3, hs2⟩ := hc k hlt
        obtain ⟨c1', ⟨x', c2', hs'⟩, y', c3', hs2'⟩ := hc' k hlt
        have hc1 := (hb.cell (p := ⟨b, off + k * 3, none⟩) hbB).trans c1
        have hc2 := (hb.cell (p := ⟨b, off + k * 3 + 1, none⟩) hbB).trans c2
        have hc3 := (hb.cell (p := ⟨b, off + k * 3 + 2, none⟩) hbB).trans c3
        have hd1 := (hb.cell (p := ⟨b', off' + k * 3, none⟩) hbB').trans c1'
        have hd2 := (hb.cell (p := ⟨b', off' + k * 3 + 1, none⟩) hbB').trans c2'
        have hd3 := (hb.cell (p := ⟨b', off' + k * 3 + 2, none⟩) hbB').trans c3'
        obtain ⟨a1, n1, cap1, rfl, hre, -, -⟩ := hs
        obtain ⟨a2, n2, cap2, rfl, hre2, -, -⟩ := hs2
        obtain ⟨a3, n3, cap3, rfl, hre', -, -⟩ := hs'
        obtain ⟨a4, n4, cap4, rfl, hre2', -, -⟩ := hs2'
        obtain rfl : n1 = n3 := by rw [← hre.1, ← hre'.1]
        obtain rfl : n2 = n4 := by rw [← hre2.1, ← hre2'.1]
        have HR1 := Lib.hid (show RowF wr a1 n1 a2 n2 (L.getD k noEff) from ⟨hre.below hb, hre2.below hb⟩)
        have HR2 := Lib.hid (show RowF wr a3 n1 a4 n2 (L.getD k noEff) from ⟨hre'.below hb, hre2'.below hb⟩)
        clear hc hc' c1 c2 c3 c1' c2' c3' hre hre' hre2 hre2'
        obtain ⟨z, hz⟩ : ∃ z, z = L.getD k noEff := ⟨_, rfl⟩
        rw [← hz] at hc1 hd1 HR1 HR2
        clear hz
        go_wp2
        go_still_tail 8, (by kernel_rfl)
        go_wp2_with fail
        refine (eqEffect_same a1 n1 cap1 a2 n2 cap2 a3 cap3 a4 cap4 z _ (show RowF wr.drew _ _ _ _ z from HR1.out) (show RowF wr.drew _ _ _ _ z from HR2.out)).mono ?_; rintro e w1 ⟨rfl, hb1⟩
        go_wp2
        go_roundw
        case rel => exact ⟨k + 1, by omega, by go_num, by first | exact hb.trans (hb1.mono hb.size) | exact hb.drew.trans (hb1.mono hb.size) | exact (below_drewN' hb _).trans (hb1.mono hb.size)⟩
        case measure => simp [intOf]; omega
      · clear hc hc'
        go_wp2
        go_ret
        exact ⟨rfl, hb⟩
  · obtain rfl : n = 0 := by omega
    clear hc hc'
    go_enter Try.func38, Try.ntmps38
    go_wp2
    go_loop [5] (fun i => i = .int .i64 0) (fun _ => 0)
    case atStart => rfl
    case round =>
      subst hrel
      go_wp2
      go_ret
      exact ⟨rfl, Below.refl _ _⟩
set_option maxRecDepth 100000 in
set_option maxHeartbeats 1000000 in
theorem sameEffects_same (a a' : Option Addr) (n cap cap' : Nat) (L : List Eff) (w : World) (h : RowFs w a n L) (h' : RowFs w a' n L) :
    Calls Try.prog 15 #[.slice a n cap, .slice a' n cap'] w fun e w' => e = .returned (.bool true) ∧ Below w.heap.size w w' := by
  obtain ⟨hl, hm, hc⟩ := h
  obtain ⟨-, -, hc'⟩ := h'
  unfold maxLen at hm
  have HN := Lib.hid hl; clear hl
  by_cases h0 : 0 < n
  · obtain ⟨b, off, rfl, hcc⟩ := hc h0; clear hc; have hc := hcc; clear hcc
    obtain ⟨b', off', rfl, hcc⟩ := hc' h0; clear hc'; have hc' := hcc; clear hcc
    have hbB : b < w.heap.size := World.block_lt_of_cell? w ⟨b, off + 0 * 3, none⟩ (hc 0 h0).1
    have hbB' : b' < w.heap.size := World.block_lt_of_cell? w ⟨b', off' + 0 * 3, none⟩ (hc' 0 h0).1
    go_enter Try.func15, Try.ntmps15
    go_wp2
    go_loopw [5] (fun i wr => ∃ k : Nat, k ≤ n ∧ i = .int .i64 k ∧ Below w.heap.size w wr) (fun i _ => n - (intOf i).toNat)
    case atStart => exact ⟨0, Nat.zero_le _, rfl, Below.refl _ _⟩
    case round =>
      obtain ⟨k, hk, rfl, hb⟩ := hrel
      by_cases hlt : k < n
      · obtain ⟨c1, ⟨x, c2, hs⟩, y, c3, hs2⟩ := hc k hlt
        obtain ⟨c1', ⟨x', c2', hs'⟩, y', c3', hs2'⟩ := hc' k hlt
        have hc1 := (hb.cell (p := ⟨b, off + k * 3, none⟩) hbB).trans c1
        have hc2 := (hb.cell (p := ⟨b, off + k * 3 + 1, none⟩) hbB).trans c2
        have hc3 := (hb.cell (p := ⟨b, off + k * 3 + 2, none⟩) hbB).trans c3
        have hd1 := (hb.cell (p := ⟨b', off' + k * 3, none⟩) hbB').trans c1'
        have hd2 := (hb.cell (p := ⟨b', off' + k * 3 + 1, none⟩) hbB').trans c2'
        have hd3 := (hb.cell (p := ⟨b', off' + k * 3 + 2, none⟩) hbB').trans c3'
        obtain ⟨a1, n1, cap1, rfl, hre, -, -⟩ := hs
        obtain ⟨a2, n2, cap2, rfl, hre2, -, -⟩ := hs2
        obtain ⟨a3, n3, cap3, rfl, hre', -, -⟩ := hs'
        obtain ⟨a4, n4, cap4, rfl, hre2', -, -⟩ := hs2'
        obtain rfl : n1 = n3 := by rw [← hre.1, ← hre'.1]
        obtain rfl : n2 = n4 := by rw [← hre2.1, ← hre2'.1]
        have HR1 := Lib.hid (show RowF wr a1 n1 a2 n2 (L.getD k noEff) from ⟨hre.below hb, hre2.below hb⟩)
        have HR2 := Lib.hid (show RowF wr a3 n1 a4 n2 (L.getD k noEff) from ⟨hre'.below hb, hre2'.below hb⟩)
        clear hc hc' c1 c2 c3 c1' c2' c3' hre hre' hre2 hre2'
        obtain ⟨z, hz⟩ : ∃ z, z = L.getD k noEff := ⟨_, rfl⟩
        rw [← hz] at hc1 hd1 HR1 HR2
        clear hz
        go_wp2
        go_still_tail 8, (by kernel_rfl)
        go_wp2_with fail
        refine (sameEffect_same a1 n1 cap1 a2 n2 cap2 a3 cap3 a4 cap4 z _ (show RowF wr.drew _ _ _ _ z from HR1.out) (show RowF wr.drew _ _ _ _ z from HR2.out)).mono ?_; rintro e w1 ⟨rfl, hb1⟩
        go_wp2
        go_roundw
        case rel => exact ⟨k + 1, by omega, by go_num, by first | exact hb.trans (hb1.mono hb.size) | exact hb.drew.trans (hb1.mono hb.size) | exact (below_drewN' hb _).trans (hb1.mono hb.size)⟩
        case measure => simp [intOf]; omega
      · clear hc hc'
        go_wp2
        go_ret
        exact ⟨rfl, hb⟩
  · obtain rfl : n = 0 := by omega
    clear hc hc'
    go_enter Try.func15, Try.ntmps15
    go_wp2
    go_loop [5] (fun i => i = .int .i64 0) (fun _ => 0)
    case atStart => rfl
    case round =>
      subst hrel
      go_wp2
      go_ret
      exact ⟨rfl, Below.refl _ _⟩
end Go.Proofs.Ytpnahncmhldgdaa

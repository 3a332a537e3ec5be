/- Texts of ours that stand together: ImplLay, ImplWrit, ImplList, ImplSeen, ImplLayers, ImplFork -/
import Derived.Test.YtakbkomgmajnfaaTwo
import Derived.Test.YtakbkomgmajnfaaLay
import Derived.StillTailTactics
import Derived.Test.YtakbkomgmajnfaaLayP
import Derived.Deep.RegionWith
/- The contracts of the program's isLayer, isLayerOrStore, areWrites, LayersValid. -/
namespace Go.Proofs.Ytakbkomgmajnfaa
open Go.RowKit
set_option linter.unusedVariables false
theorem isLayer_impl (a : Option Addr) (len cap : Nat) (n : Int) (w : World) (hm : len ≤ maxLen) :
    Calls Try.prog 76 #[.slice a len cap, .int .i64 n] w fun e w' => e = .returned (.bool (inB n 0 ((len : Int) - 1))) ∧ w = w' := by
  unfold maxLen at hm
  by_cases h1 : 0 ≤ n
  · by_cases h2 : n < len
    · rw [inB_yes h1 (by omega)]
      go_enter Try.func76, Try.ntmps76
      go_wp2
      go_ret
      exact ⟨rfl, rfl⟩
    · rw [inB_no (by omega)]
      go_enter Try.func76, Try.ntmps76
      go_wp2
      go_ret
      exact ⟨rfl, rfl⟩
  · rw [inB_no (by omega)]
    go_enter Try.func76, Try.ntmps76
    go_wp2
    go_ret
    exact ⟨rfl, rfl⟩
theorem isLayerOrStore_impl (a : Option Addr) (len cap : Nat) (n : Int) (w : World) (hm : len ≤ maxLen) :
    Calls Try.prog 74 #[.slice a len cap, .int .i64 n] w fun e w' => e = .returned (.bool (inB n (-1) ((len : Int) - 1))) ∧ w = w' := by
  by_cases h1 : n = -1
  · subst h1
    rw [inB_yes (by omega) (by omega)]
    go_enter Try.func74, Try.ntmps74
    go_wp2
    go_ret
    exact ⟨rfl, rfl⟩
  · have hb : (n == -1) = false := by simpa using h1
    have e : inB n (-1) ((len : Int) - 1) = inB n 0 ((len : Int) - 1) := by
      rw [Bool.eq_iff_iff]; simp [inB]; omega
    rw [e]
    have HM := Lib.hid hm
    clear hm e h1
    go_enter Try.func74, Try.ntmps74
    go_wp2_with (first | (go_at_call 76; refine (isLayer_impl _ _ _ _ _ HM.out).mono ?_; rintro e w' ⟨rfl, rfl⟩))
    go_ret
    exact ⟨rfl, rfl⟩
theorem wrAt_last (l : List Ent) (k : Nat) : wrAt l k = (inB (l.getD k (0, 0)).1 0 31 && inB (l.getD k (0, 0)).2 0 1000000 && decide (lastOf l k < (l.getD k (0, 0)).1)) := by
  unfold wrAt
  cases k with
  | zero =>
    by_cases h : 0 ≤ (l.getD 0 (0, 0)).1
    · have e : decide (lastOf l 0 < (l.getD 0 (0, 0)).1) = true := by rw [decide_eq_true_eq]; show (-1 : Int) < _; omega
      rw [e]; rfl
    · rw [inB_no (by omega)]; simp
  | succ k => simp [lastOf]
set_option maxHeartbeats 1000000 in
theorem areWrites_impl (a : Option Addr) (n cap : Nat) (l : List Ent) (w : World) (h : RowE w a n l) :
    Calls Try.prog 67 #[.slice a n cap] w (BoolB (writesB l) w) := by
  have HR := Lib.hid h
  obtain ⟨hl, hm, hc, -⟩ := h
  unfold maxLen at hm
  have HL := Lib.hid hl; clear hl
  by_cases h0 : 0 < n
  · obtain ⟨b, off, rfl, hcc⟩ := hc h0; clear hc; have hc := hcc; clear hcc
    have hbs : b < w.heap.size := World.block_lt_of_cell? w ⟨b, off + 0 * 2, none⟩ (hc 0 h0).1
    go_enter Try.func67, Try.ntmps67
    go_wp2
    go_loopw [3, 8] (fun z i wr => ∃ k : Nat, k ≤ n ∧ i = .int .i64 k ∧ z = .int .i64 (lastOf l k) ∧ WrTo l k ∧ Below w.heap.size w wr) (fun _ i _ => n - (intOf i).toNat)
    case atStart => exact ⟨0, Nat.zero_le _, rfl, rfl, WrTo.zero l, Below.refl _ _⟩
    case round =>
      obtain ⟨k, hk, rfl, rfl, hok, hb⟩ := hrel
      have HOK := Lib.hid hok; clear hok
      by_cases hlt : k < n
      · have hc1 := (hb.cell (p := ⟨b, off + k * 2, none⟩) hbs).trans (hc k hlt).1
        have hc2 := (hb.cell (p := ⟨b, off + k * 2 + 1, none⟩) hbs).trans (hc k hlt).2
        have hz := lastOf_bd HR.out k hk
        have hxb := (HR.out.bd k hlt).1
        have HE := Lib.hid (wrAt_last l k)
        have HB := Lib.hid (writesB_bad l k (by rw [HL.out]; exact hlt))
        have HLK : Hid (lastOf l (k + 1) = (l.getD k (0, 0)).1) := Lib.hid rfl
        clear hc
        obtain ⟨x, hx⟩ : ∃ x, x = (l.getD k (0, 0)).1 := ⟨_, rfl⟩
        obtain ⟨y, hy⟩ : ∃ y, y = (l.getD k (0, 0)).2 := ⟨_, rfl⟩
        obtain ⟨z, hzz⟩ : ∃ z, z = lastOf l k := ⟨_, rfl⟩
        rw [← hx] at hc1 hxb HLK
        rw [← hy] at hc2
        rw [← hx, ← hy, ← hzz] at HE
        rw [← hzz] at hz ⊢
        clear hx hy hzz
        cases e1 : inB x 0 31 with
        | false =>
          have HF := Lib.hid (HB.out (by rw [HE.out, e1]; rfl))
          clear HE HB
          go_wp2_with (first | (go_at_call 59; refine (isKey_impl _ _).mono ?_; rintro e w' ⟨rfl, rfl⟩))
          go_ret
          exact ⟨by rw [HF.out]; rfl, hb.alloc hb.size _⟩
        | true =>
          by_cases hle : x ≤ z
          · have hle' : decide (x ≤ z) = true := by simpa using hle
            have HF := Lib.hid (HB.out (by rw [HE.out, e1]; simp; omega))
            clear HE HB hle
            go_wp2_with (first | (go_at_call 59; refine (isKey_impl _ _).mono ?_; rintro e w' ⟨rfl, rfl⟩) | (go_at_call 60; refine (isValue_impl _ _).mono ?_; rintro e w' ⟨rfl, rfl⟩))
            go_ret
            exact ⟨by rw [HF.out]; rfl, hb.alloc hb.size _⟩
          · have hle' : decide (x ≤ z) = false := by simpa using hle
            cases e2 : inB y 0 1000000 with
            | false =>
              have HF := Lib.hid (HB.out (by rw [HE.out, e2]; simp))
              clear HE HB hle
              go_wp2_with (first | (go_at_call 59; refine (isKey_impl _ _).mono ?_; rintro e w' ⟨rfl, rfl⟩) | (go_at_call 60; refine (isValue_impl _ _).mono ?_; rintro e w' ⟨rfl, rfl⟩))
              go_ret
              exact ⟨by rw [HF.out]; rfl, hb.alloc hb.size _⟩
            | true =>
              have HF := Lib.hid (HOK.out.next (by rw [HE.out, e1, e2]; simp; omega))
              clear HE HB hle
              go_wp2_with (first | (go_at_call 59; refine (isKey_impl _ _).mono ?_; rintro e w' ⟨rfl, rfl⟩) | (go_at_call 60; refine (isValue_impl _ _).mono ?_; rintro e w' ⟨rfl, rfl⟩))
              go_roundw
              case rel => exact ⟨k + 1, by omega, by go_num, by rw [HLK.out], HF.out, hb.alloc hb.size _⟩
              case measure => simp [intOf]; omega
      · have hs : writesB l = true := (writesB_iff l).2 (fun j hj => HOK.out j (by rw [HL.out] at hj; omega))
        have HF := Lib.hid hs
        clear hc hs
        go_wp2
        go_ret
        exact ⟨by rw [HF.out]; rfl, hb⟩
  · obtain rfl : n = 0 := by omega
    obtain rfl : l = [] := List.eq_nil_of_length_eq_zero HL.out
    clear hc
    go_enter Try.func67, Try.ntmps67
    go_wp2
    go_loop [3, 8] (fun z i => z = .int .i64 (-1) ∧ i = .int .i64 0) (fun _ _ => 0)
    case atStart => exact ⟨rfl, rfl⟩
    case round =>
      obtain ⟨rfl, rfl⟩ := hrel
      go_wp2
      go_ret
      exact ⟨rfl, Below.refl _ _⟩
theorem isLayerOrStore_same (a : Option Addr) (len cap : Nat) (n : Int) (w : World) (hm : len ≤ maxLen) :
    Calls Try.prog 74 #[.slice a len cap, .int .i64 n] w fun e w' => e = .returned (.bool (inB n (-1) ((len : Int) - 1))) ∧ w' = w :=
  (isLayerOrStore_impl a len cap n w hm).mono fun _ _ ⟨h1, h2⟩ => ⟨h1, h2.symm⟩
theorem layAt_eq (L : List Lay) (k : Nat) : layAt L k = (inB (L.getD k (0, [])).1 (-1) ((k : Int) - 1) && writesB (L.getD k (0, [])).2) := rfl
set_option maxRecDepth 100000 in
set_option maxHeartbeats 1000000 in
theorem layersValid_impl (a : Option Addr) (n cap : Nat) (L : List Lay) (w : World) (h : RowL w a n L) (hcap : n ≤ cap) :
    Calls Try.prog 94 #[.slice a n cap] w (BoolB (layersB L) w) := by
  have HR := Lib.hid h
  obtain ⟨hl, hm, hc, -⟩ := h
  unfold maxLen at hm
  have HL := Lib.hid hl; clear hl
  by_cases h20 : n ≤ 20
  · by_cases h0 : 0 < n
    · obtain ⟨b, off, rfl, hcc⟩ := hc h0; clear hc; have hc := hcc; clear hcc
      have hbs : b < w.heap.size := World.block_lt_of_cell? w ⟨b, off + 0 * 2, none⟩ (hc 0 h0).1
      go_enter Try.func94, Try.ntmps94
      go_wp2
      go_loopw [10] (fun i wr => ∃ k : Nat, k ≤ n ∧ i = .int .i64 k ∧ LayTo L k ∧ Below w.heap.size w wr) (fun i _ => n - (intOf i).toNat)
      case atStart => exact ⟨0, Nat.zero_le _, rfl, LayTo.zero L, Below.refl _ _⟩
      case round =>
        obtain ⟨k, hk, rfl, hok, hb⟩ := hrel
        have HOK := Lib.hid hok; clear hok
        by_cases hlt : k < n
        · obtain ⟨c1, x, c2, hs⟩ := hc k hlt
          have hc1 := (hb.cell (p := ⟨b, off + k * 2, none⟩) hbs).trans c1
          have hc2 := (hb.cell (p := ⟨b, off + k * 2 + 1, none⟩) hbs).trans c2
          have HE := Lib.hid (layAt_eq L k)
          have HB := Lib.hid (layersB_bad L k (by rw [HL.out]; exact hlt))
          obtain ⟨a', n', cap', rfl, hre, hcz, hcl⟩ := hs
          clear hc c1 c2
          obtain ⟨y, hy⟩ : ∃ y, y = (L.getD k (0, [])).1 := ⟨_, rfl⟩
          obtain ⟨l, hll⟩ : ∃ l, l = (L.getD k (0, [])).2 := ⟨_, rfl⟩
          rw [← hy] at hc1 HE
          rw [← hll] at HE hre
          clear hy hll
          have hkm : k ≤ maxLen := by unfold maxLen; omega
          have HKM := Lib.hid hkm; clear hkm
          have hkc : (k : Int) ≤ (cap : Int) := by omega
          have hk0 : (0 : Int) ≤ (k : Int) := by omega
          have hre0 : RowE wr a' n' l := hre.below hb
          have hre1 := hre0.below ((Below.refl wr.heap.size wr).alloc (Nat.le_refl _) (.cells #[.int .i64 y, .slice a' n' cap'] 102))
          have hd1 : (wr.alloc (.cells #[.int .i64 y, .slice a' n' cap'] 102)).cell? ⟨wr.heap.size, 0, none⟩ = some (.int .i64 y) := by simp [go_sem]
          have hd2 : (wr.alloc (.cells #[.int .i64 y, .slice a' n' cap'] 102)).cell? ⟨wr.heap.size, 1, none⟩ = some (.slice a' n' cap') := by simp [go_sem]
          have hb1 := hb.alloc hb.size (.cells #[.int .i64 y, .slice a' n' cap'] 102)
          go_wp2
          obtain ⟨w1, hw1⟩ : ∃ w1, w1 = wr.alloc (.cells #[.int .i64 y, .slice a' n' cap'] 102) := ⟨_, rfl⟩
          rw [← hw1] at hre1 hd1 hd2 hb1 ⊢
          clear hw1 hc1 hc2 hb hre hre0
          cases e1 : inB y (-1) ((k : Int) - 1) with
          | false =>
            have HF := Lib.hid (HB.out (by rw [HE.out, e1]; rfl))
            clear HE HB
            go_quiet ((go_at_call 74; exact Calls.quiet_of_same (isLayerOrStore_same _ _ _ _ _ HKM.out)))
            go_wp2
            go_ret
            exact ⟨by rw [HF.out]; rfl, below_drewN' hb1 _⟩
          | true =>
            refine wp_region_still_tail 10 (by kernel_rfl) (by kernel_rfl) ?_
            simp only [List.take_succ_cons, List.take_zero, List.drop_succ_cons, List.drop_zero]
            repeat still_step
            still_call (isLayerOrStore_same _ _ _ _ _ HKM.out)
            rw [e1]
            have HG := Lib.hid e1
            clear e1
            repeat still_step
            refine wpStill_nil ?_
            change wpList _ _ _ _ _ w1.drew
            have hb2 : Below w.heap.size w w1.drew := hb1.drew
            have hre2 : RowE w1.drew a' n' l := hre1
            generalize w1.drew = w2 at hb2 hre2 ⊢
            go_wp2_with fail
            refine (areWrites_impl a' n' cap' l _ hre2).mono ?_; rintro e w3 ⟨rfl, hb3⟩
            have hb4 := hb2.trans (hb3.mono hb2.size)
            clear hb3 hb2 hb1 hd1 hd2 hre1 hre2
            cases e2 : writesB l with
            | false =>
              have HF := Lib.hid (HB.out (by rw [HE.out, e2]; simp))
              clear HE HB
              go_wp2
              go_ret
              exact ⟨by rw [HF.out]; rfl, hb4⟩
            | true =>
              have HF := Lib.hid (HOK.out.next (by rw [HE.out, HG.out, e2]; rfl))
              clear HE HB
              go_wp2
              go_roundw
              case rel => exact ⟨k + 1, by omega, by go_num, HF.out, hb4⟩
              case measure => simp [intOf]; omega
        · have hs : layersB L = true := layersB_yes L (fun j hj => HOK.out j (by rw [HL.out] at hj; omega)) (by rw [HL.out]; exact h20)
          have HF := Lib.hid hs
          clear hc hs
          go_wp2
          go_ret
          exact ⟨by rw [HF.out]; rfl, hb⟩
    · obtain rfl : n = 0 := by omega
      obtain rfl : L = [] := List.eq_nil_of_length_eq_zero HL.out
      clear hc
      go_enter Try.func94, Try.ntmps94
      go_wp2
      go_loop [10] (fun i => i = .int .i64 0) (fun _ => 0)
      case atStart => rfl
      case round =>
        subst hrel
        go_wp2
        go_ret
        exact ⟨rfl, Below.refl _ _⟩
  · have HF := Lib.hid (layersB_long L (by rw [HL.out]; omega))
    clear hc
    go_enter Try.func94, Try.ntmps94
    go_wp2
    go_ret
    exact ⟨by rw [HF.out]; rfl, Below.refl _ _⟩
end Go.Proofs.Ytakbkomgmajnfaa
/- The contracts of the program's writtenLayers, writtenAt, writes, listOf. -/
namespace Go.Proofs.Ytakbkomgmajnfaa
open Go.RowKit Go.Maps
set_option linter.unusedVariables false
/-- A list of pairs, new or nil, that can be owned. -/
def NewW (w : World) (l : List Ent) (e : Ending) (w' : World) : Prop :=
  ∃ v, e = .returned v ∧ w'.ownsRow w.heap.size 32 2 v l.length (flatE l) ∧ WfE l ∧ Below w.heap.size w w'
theorem wfE_wrOf {f : Int → Option Int} (h : BdF f) (j : Nat) (hj : j ≤ 32) : WfE (wrOf f j) := fun e he => by
  have h1 := wrOf_mem f j e he
  have h2 := h _ _ h1.2.2
  exact ⟨WalkArith.wf_i64 (by omega), WalkArith.wf_i64 (by omega)⟩
set_option maxHeartbeats 1000000 in
theorem writes_impl (y : Int) (m K : Nat) (f : Int → Option Int) (w : World) (h : MapF w m K f) (hbd : BdF f) :
    Calls Try.prog 89 #[.agg #[.int .i64 y, .map (some m)]] w (NewW w (wrOf f 32)) := by
  have HBD := Lib.hid hbd; clear hbd
  go_enter Try.func89, Try.ntmps89
  go_wp2
  have hc0 : (w.alloc (.cells #[.int .i64 y, .map (some m)] 105)).cell? ⟨w.heap.size, 1, none⟩ = some (.map (some m)) := by simp [go_sem]
  have hm0 := h.alloc (.cells #[.int .i64 y, .map (some m)] 105)
  have hb0 := (Below.refl w.heap.size w).alloc (Nat.le_refl _) (.cells #[.int .i64 y, .map (some m)] 105)
  have hz0 : w.heap.size < (w.alloc (.cells #[.int .i64 y, .map (some m)] 105)).heap.size := by simp
  obtain ⟨w0, hw0⟩ : ∃ w0, w0 = w.alloc (.cells #[.int .i64 y, .map (some m)] 105) := ⟨_, rfl⟩
  rw [← hw0] at hc0 hm0 hb0 hz0 ⊢
  clear hw0 h
  go_loopw [3, 7] (fun v i wr => ∃ k : Nat, k ≤ 32 ∧ i = .int .i64 k ∧ wr.ownsRow w0.heap.size 32 2 v (wrOf f k).length (flatE (wrOf f k)) ∧ Below w0.heap.size w0 wr) (fun _ i _ => 32 - (intOf i).toNat)
  case atStart => exact ⟨0, by omega, rfl, own_nil _ _ _ _, Below.refl _ _⟩
  case round =>
    obtain ⟨k, hk, rfl, hown, hb⟩ := hrel
    have hlen := wrOf_len f k
    by_cases hlt : k < 32
    · have hc1 := (hb.cell (p := ⟨w.heap.size, 1, none⟩) hz0).trans hc0
      have hm1 := hm0.below hb
      have HK : (Lit.int .i64 (k : Int)).wf = true := WalkArith.wf_i64 (by omega)
      have HK' := Lib.hid HK; clear HK
      clear hc0 hm0
      cases hf : f (k : Int) with
      | none =>
        have HX := Lib.hid (wrOf_no hf)
        have HF := Lib.hid hf
        clear hf
        go_wp2_with (first | (at_lookup; refine wpList_lookup_no _ rfl _ _ rfl m K f k (by rfl) (by rfl) hm1 HK'.out HF.out ?_))
        go_roundw
        case rel => exact ⟨k + 1, by omega, by go_num, by rw [HX.out]; exact hown, hb⟩
        case measure => simp [intOf]; omega
      | some x =>
        have HX := Lib.hid (wrOf_yes hf)
        have HF := Lib.hid hf
        clear hf
        go_wp2_with (first | (at_lookup; refine wpList_lookup_yes _ rfl _ _ rfl m K f k x (by rfl) (by rfl) hm1 HK'.out HF.out ?_) | (at_builtin; refine wpList_append_one' rfl _ _ 33 rfl w0.heap.size 32 _ (.agg #[.int .i64 0, .int .i64 0]) 2 16 Try.underlying33 infoEnt rfl (by decide) _ _ _ [.int .i64 (k : Int), .int .i64 x] (by rfl) hown (by rfl) rfl ?c11 ?c21 (by decide) ?c31 ?_))
        case c11 => intro u hu; simp at hu; rcases hu with rfl | rfl <;> rfl
        case c21 => omega
        case c31 => exact hb.size
        intro v1 w1 ho1' hnn hg1
        have hb1 : Below w0.heap.size w0 w1 := (hb.alloc hb.size _).grown hg1 (by have := hb.size; simp; omega) (fun k hk => (hown.lt k hk).1)
        clear hg1
        go_wp2
        go_roundw
        case rel => exact ⟨k + 1, by omega, by go_num, by rw [HX.out, flatE_append, List.length_append]; exact ho1', hb1⟩
        case measure => simp [intOf]; omega
    · obtain rfl : k = 32 := by omega
      go_wp2
      go_ret
      exact ⟨_, rfl, owns_mono hown hb0.size, wfE_wrOf HBD.out 32 (Nat.le_refl _), hb0.trans (hb.mono hb0.size)⟩
/-- v owns the layers L, each with its writes by key. -/
def OwnW (K : Nat) (w : World) (B T : Nat) (v : Value) (L : List Lay) : Prop := ∃ xs, Own2 w B T 105 2 v L.length ((L.map some).flatMap (wlC K)) xs
theorem OwnW.below {K : Nat} {w w' : World} {B T : Nat} {v : Value} {L : List Lay} (h : OwnW K w B T v L) (hb : Below w.heap.size w w') : OwnW K w' B T v L := by
  obtain ⟨xs, h1⟩ := h; exact ⟨xs, h1.below hb⟩
theorem wlC_get (K : Nat) (L : List Lay) (i : Nat) (h : i < L.length) : ((L.map some).flatMap (wlC K))[i * 2]? = some (.int (L.getD i (0, [])).1) ∧ ((L.map some).flatMap (wlC K))[i * 2 + 1]? = some (.mapF K (findM (L.getD i (0, [])).2)) := by
  have hs : (L.map some)[i]? = some (some (L.getD i (0, []))) := by rw [List.getElem?_map, getD_some L i (0, []) h]; rfl
  have h0 := flatMap_get (wlC K) 2 (wlC_len K) _ i 0 _ hs (by omega)
  have h1 := flatMap_get (wlC K) 2 (wlC_len K) _ i 1 _ hs (by omega)
  rw [Nat.add_zero] at h0
  exact ⟨h0, h1⟩
/-- A layer, out of what is owned. -/
theorem OwnW.at {K : Nat} {w : World} {B T g n cap : Nat} {L : List Lay} (h : OwnW K w B T (.slice (some ⟨g, 0, none⟩) n cap) L) (i : Nat) (hi : i < L.length) :
    ∃ m, w.cell? ⟨g, i * 2, none⟩ = some (.int .i64 (L.getD i (0, [])).1) ∧ w.cell? ⟨g, i * 2 + 1, none⟩ = some (.map (some m)) ∧ MapF w m K (findM (L.getD i (0, [])).2) ∧ n = L.length := by
  obtain ⟨xs, h1⟩ := h
  have hn : n = L.length := by
    rcases slice_of_owns h1.1 with ⟨h2, _⟩ | ⟨g', cap', h2, _⟩
    · cases h2
    · simp at h2; exact h2.2.1
  subst hn
  obtain ⟨c0, c1⟩ := wlC_get K L i hi
  obtain ⟨x, hx, hcx, hox, -⟩ := h1.at c0
  obtain ⟨y, hy, hcy, hoy, -⟩ := h1.at c1
  obtain ⟨m, rfl, hm⟩ := hoy
  exact ⟨m, by rw [hcx, hox.1], hcy, hm, rfl⟩
/-- What is seen in the layer n is seen in the layer k. -/
def SeenTo (L : List Lay) (n key k : Int) : Prop := seen L n key = seen L k key
/-- A number and a bool, and nothing has turned. -/
def IntOk (x : Option Int) (w : World) (e : Ending) (w' : World) : Prop := e = .returned (.tuple #[.int .i64 (x.getD 0), .bool x.isSome]) ∧ w = w'
set_option maxHeartbeats 1000000 in
theorem writtenAt_impl (K g len cap : Nat) (L : List Lay) (n key : Int) (B T : Nat) (w : World) (h : OwnW K w B T (.slice (some ⟨g, 0, none⟩) len cap) L) (hL : layersB L = true) (h0 : -1 ≤ n) (h1 : n < L.length) (hk : (Lit.int .i64 key).wf = true) :
    Calls Try.prog 95 #[.slice (some ⟨g, 0, none⟩) len cap, .int .i64 n, .int .i64 key] w (IntOk (seen L n key) w) := by
  have HK := Lib.hid hk; clear hk
  have HL := Lib.hid hL; clear hL
  have HO := Lib.hid h; clear h
  have h20 := ((layersB_iff L).1 HL.out).2
  have HP : SeenTo L n key n := rfl
  go_enter Try.func95, Try.ntmps95
  go_wp2
  go_loop [1] (fun i => ∃ k : Int, -1 ≤ k ∧ k < L.length ∧ i = .int .i64 k ∧ SeenTo L n key k) (fun i => (intOf i + 1).toNat)
  case atStart => exact ⟨n, h0, h1, rfl, HP⟩
  case round =>
    obtain ⟨k, hk0, hk1, rfl, HS⟩ := hrel
    clear HP h0 h1
    by_cases hkm : k = -1
    · subst hkm
      have HN : Hid (seen L n key = none) := Lib.hid (by rw [HS]; exact seen_neg L _ key (by omega))
      go_wp2
      go_ret2
      exact ⟨by rw [HN.out]; rfl, rfl⟩
    · obtain ⟨j, rfl⟩ : ∃ j : Nat, k = (j : Int) := ⟨k.toNat, by omega⟩
      have hj : j < L.length := by omega
      obtain ⟨m, hc1, hc2, hm, rfl⟩ := HO.out.at j hj
      have hbd := lay_bd HL.out j hj
      have hkb : ((j : Int) != -1) = true := by simp
      clear hkm
      cases hf : findM (L.getD j (0, [])).2 key with
      | some v =>
        have HN : Hid (seen L n key = some v) := Lib.hid (by rw [HS]; exact seen_hit (by omega) (by rw [Int.toNat_natCast]; exact hf))
        have HF := Lib.hid hf
        clear hf
        obtain ⟨f, hff⟩ : ∃ f, f = findM (L.getD j (0, [])).2 := ⟨_, rfl⟩
        rw [← hff] at hm HF
        clear hff
        go_wp2_with (first | (at_lookup; refine wpList_lookup_yes _ rfl _ _ rfl m K f key v (by rfl) (by rfl) hm HK.out HF.out ?_))
        go_ret2
        exact ⟨by rw [HN.out]; rfl, rfl⟩
      | none =>
        have HN : Hid (seen L n key = seen L (L.getD j (0, [])).1 key) := Lib.hid (by rw [HS, seen_miss HL.out (by omega) (by omega) (by rw [Int.toNat_natCast]; exact hf), Int.toNat_natCast])
        have HF := Lib.hid hf
        clear hf
        obtain ⟨f, hff⟩ : ∃ f, f = findM (L.getD j (0, [])).2 := ⟨_, rfl⟩
        rw [← hff] at hm HF
        clear hff
        obtain ⟨y, hy⟩ : ∃ y, y = (L.getD j (0, [])).1 := ⟨_, rfl⟩
        rw [← hy] at hc1 hbd HN
        clear hy
        go_wp2_with (first | (at_lookup; refine wpList_lookup_no _ rfl _ _ rfl m K f key (by rfl) (by rfl) hm HK.out HF.out ?_))
        go_round
        case rel => exact ⟨y, by omega, by omega, rfl, HN.out⟩
        case measure => simp [intOf]; omega
/-- The first k layers with their writes by key; the others not yet. -/
def FillW (w : World) (B g n : Nat) (L : List Lay) (k : Nat) : Prop := ∃ xs, Own2 w B w.heap.size 105 2 (.slice (some ⟨g, 0, none⟩) n n) n ((fillO L k).flatMap (wlC 100)) xs
theorem FillW.store {w : World} {B g n : Nat} {L : List Lay} {k T : Nat} {xs : List Value} (h : Own2 w B T 105 2 (.slice (some ⟨g, 0, none⟩) n n) n ((fillO L k).flatMap (wlC 100)) xs) (hk : k < L.length) (m : Nat) (hm : MapF w m 100 (findM (L.getD k (0, [])).2)) (hT : T ≤ m) (hB : B ≤ T)
    (hw : (Lit.int .i64 (L.getD k (0, [])).1).wf = true) (hTw : T ≤ w.heap.size) : FillW ((w.setCell ⟨g, k * 2, none⟩ (.int .i64 (L.getD k (0, [])).1)).setCell ⟨g, k * 2 + 1, none⟩ (.map (some m))) B g n L (k + 1) := by
  have h1 := h.store2 (T' := w.heap.size) k (.int (L.getD k (0, [])).1) (.mapF 100 (findM (L.getD k (0, [])).2)) (.int .i64 (L.getD k (0, [])).1) (.map (some m)) (fun _ => ⟨rfl, hw⟩) rfl ⟨m, rfl, hm⟩ (fun b hb => by simp [blk] at hb; have := hm.lt; omega) hTw hB
  rw [← flatMap_set2 (wlC 100) (wlC_len 100) (fillO L k) k (some (L.getD k (0, []))) _ _ (by rw [fillO_len L k (by omega)]; exact hk) rfl, fillO_set L k (0, []) hk] at h1
  exact ⟨_, h1.mono (Nat.le_refl _) (by simp [World.setCell])⟩
theorem infoWL : (Try.prog.info? 105).map (fun i => (i.zero, i.size, i.bytes)) = some (some (.agg #[.int .i64 0, .map none]), 2, 16) := by kernel_rfl
/-- The layers with their writes by key, and true. -/
def WrYes (L : List Lay) (w : World) (e : Ending) (w' : World) : Prop :=
  ∃ g cap, e = .returned (.tuple #[.slice (some ⟨g, 0, none⟩) L.length cap, .bool true]) ∧ OwnW 100 w' w.heap.size w'.heap.size (.slice (some ⟨g, 0, none⟩) L.length cap) L ∧ Below w.heap.size w w'
/-- No layers, and false. -/
def WrNo (w : World) (e : Ending) (w' : World) : Prop := e = .returned (.tuple #[.slice none 0 0, .bool false]) ∧ Below w.heap.size w w'
theorem writtenLayers_no (a : Option Addr) (n cap : Nat) (L : List Lay) (w : World) (h : RowL w a n L) (hcap : n ≤ cap) (hL : layersB L = false) :
    Calls Try.prog 73 #[.slice a n cap] w (WrNo w) := by
  have HL := Lib.hid hL; clear hL
  go_enter Try.func73, Try.ntmps73
  go_wp2_with fail
  refine (layersValid_impl a n cap L _ h hcap).mono ?_; rintro e w1 ⟨rfl, hb⟩
  rw [HL.out]
  go_wp2
  go_ret2
  exact ⟨rfl, hb⟩
set_option maxHeartbeats 4000000 in
theorem writtenLayers_yes (a : Option Addr) (n cap : Nat) (L : List Lay) (w : World) (h : RowL w a n L) (hcap : n ≤ cap) (hL : layersB L = true) :
    Calls Try.prog 73 #[.slice a n cap] w (WrYes L w) := by
  have HL := Lib.hid hL; clear hL
  have HR := Lib.hid h
  obtain ⟨hl, -, hc, -⟩ := h
  have HN := Lib.hid hl; clear hl
  have h20 : n ≤ 20 := by have := ((layersB_iff L).1 HL.out).2; rw [HN.out] at this; exact this
  obtain ⟨i0, hi, hz0, hz1, hz2⟩ := info_parts infoWL
  have hmm := run_makeMap_n
  go_enter Try.func73, Try.ntmps73
  go_wp2_with fail
  refine (layersValid_impl a n cap L _ HR.out hcap).mono ?_; rintro e w1 ⟨rfl, hb⟩
  rw [HL.out]
  go_wp2_with (first | (at_make; refine wpList_make_full _ rfl (.tmp 14) (.tmp 14) 96 rfl w1.heap.size 105 i0 (.agg #[.int .i64 0, .map none]) 2 Try.underlying96 hi hz0 hz1 .i64 .i64 n n n rfl rfl rfl rfl (by rw [hz2]; omega) (by unfold maxLen; omega) (Nat.le_refl _) ?_; intro w2 hown hgrow; clear hi hz0 hz1 hz2))
  have hb2 : Below w.heap.size w w2 := hb.grown hgrow hb.size (fun k hk => by simp at hk)
  have hg2 : w1.heap.size < w2.heap.size := (hown.lt w1.heap.size rfl).2
  have ho2 := own2_made (T := w2.heap.size) (.int .i64 0) (.map none) (.int 0) .noMap (wlC 100) none rfl hown (fun b hb => by simp [blk] at hb; omega) ⟨rfl, by decide⟩ rfl rfl rfl (wlC_len 100)
  have hbs := hb.size
  clear hown hgrow hb
  obtain ⟨g, hg⟩ : ∃ g, g = w1.heap.size := ⟨_, rfl⟩
  rw [← hg] at ho2 hg2 hbs ⊢
  clear hg
  have hm0 : FillW w2 w.heap.size g n L 0 := ⟨_, by rw [fillO_zero, HN.out]; exact ho2.mono hbs (Nat.le_refl _)⟩
  clear ho2
  by_cases h0 : 0 < n
  · obtain ⟨b, off, rfl, hcc⟩ := hc h0; clear hc; have hc := hcc; clear hcc
    have hbB : b < w.heap.size := World.block_lt_of_cell? w ⟨b, off + 0 * 2, none⟩ (hc 0 h0).1
    go_loopw [18] (fun i wr => ∃ k : Nat, k ≤ n ∧ i = .int .i64 k ∧ FillW wr w.heap.size g n L k ∧ Below w.heap.size w wr) (fun i _ => n - (intOf i).toNat)
    case atStart => exact ⟨0, Nat.zero_le _, rfl, hm0, hb2⟩
    case round =>
      clear hm0 hb2 hg2
      obtain ⟨k, hk, rfl, hfw, hb⟩ := hrel
      obtain ⟨wo, hwo⟩ : ∃ wo, wo = wr := ⟨wr, rfl⟩
      subst hwo
      by_cases hlt : k < n
      · obtain ⟨c1, x, c2, hs⟩ := hc k hlt
        have hc1 := (hb.cell (p := ⟨b, off + k * 2, none⟩) hbB).trans c1
        have hc2 := (hb.cell (p := ⟨b, off + k * 2 + 1, none⟩) hbB).trans c2
        have hwr := lay_wr HL.out k (by rw [HN.out]; exact hlt)
        have hwl := wr_len ((writesB_ok _).2 hwr)
        have hwf := HR.out.2.2.2 _ (getD_memL L k (by rw [HN.out]; exact hlt))
        have HST := Lib.hid (fun (W : World) (xs : List Value) (m : Nat) (h : Own2 W w.heap.size wo.heap.size 105 2 (.slice (some ⟨g, 0, none⟩) n n) n ((fillO L k).flatMap (wlC 100)) xs) (hm : MapF W m 100 (findM (L.getD k (0, [])).2)) (h1 : wo.heap.size ≤ m) (h2 : wo.heap.size ≤ W.heap.size) => FillW.store h (by rw [HN.out]; exact hlt) m hm h1 hb.size hwf h2)
        obtain ⟨a', n', cap', rfl, hre, hcz, hcl⟩ := hs
        clear hc c1 c2 hwf
        obtain ⟨y, hy⟩ : ∃ y, y = (L.getD k (0, [])).1 := ⟨_, rfl⟩
        obtain ⟨l, hll⟩ : ∃ l, l = (L.getD k (0, [])).2 := ⟨_, rfl⟩
        rw [← hy] at hc1 HST
        rw [← hll] at hre hwr hwl HST
        clear hy hll
        have HWR := Lib.hid hwr
        have HLN := Lib.hid hre.1
        have hn32 : n' ≤ 32 := by rw [← HLN.out]; exact hwl
        clear hwr hwl
        have hmm0 := MapF.made (wo.alloc (.cells #[.int .i64 y, .slice a' n' cap'] 102))
        rw [show (wo.alloc (.cells #[.int .i64 y, .slice a' n' cap'] 102)).heap.size = wo.heap.size + 1 by simp] at hmm0
        have hcy0 : ((wo.alloc (.cells #[.int .i64 y, .slice a' n' cap'] 102)).alloc (.map #[] 0)).cell? ⟨wo.heap.size, 0, none⟩ = some (.int .i64 y) := by simp [go_sem]
        have hbi0 : Below wo.heap.size wo ((wo.alloc (.cells #[.int .i64 y, .slice a' n' cap'] 102)).alloc (.map #[] 0)) := ((Below.refl _ _).alloc (Nat.le_refl _) _).alloc (by simp) _
        go_wp2
        obtain ⟨wi, hwi⟩ : ∃ wi, wi = (wo.alloc (.cells #[.int .i64 y, .slice a' n' cap'] 102)).alloc (.map #[] 0) := ⟨_, rfl⟩
        rw [← hwi] at hmm0 hcy0 hbi0 ⊢
        clear hwi
        by_cases hn0 : 0 < n'
        · obtain ⟨b', off', rfl, hce⟩ := hre.2.2.1 hn0
          have hbB' : b' < w.heap.size := World.block_lt_of_cell? w ⟨b', off' + 0 * 2, none⟩ (hce 0 hn0).1
          go_loopw [30] (fun i wr => ∃ j : Nat, j ≤ n' ∧ i = .int .i64 j ∧ MapF wr (wo.heap.size + 1) j (findM (l.take j)) ∧ wr.cell? ⟨wo.heap.size, 0, none⟩ = some (.int .i64 y) ∧ Below wo.heap.size wo wr) (fun i _ => n' - (intOf i).toNat)
          case atStart => exact ⟨0, Nat.zero_le _, rfl, hmm0, hcy0, hbi0⟩
          case round =>
            clear hmm0 hcy0 hbi0
            obtain ⟨j, hj, rfl, hmj, hcy, hbi⟩ := hrel
            by_cases hjn : j < n'
            · have hbw := hb.trans (hbi.mono hb.size)
              have hd1 := (hbw.cell (p := ⟨b', off' + j * 2, none⟩) hbB').trans (hce j hjn).1
              have hd2 := (hbw.cell (p := ⟨b', off' + j * 2 + 1, none⟩) hbB').trans (hce j hjn).2
              have hw2 := hre.2.2.2 _ (getD_memE l j (by rw [HLN.out]; exact hjn))
              have HFT := Lib.hid (findM_take HWR.out j (by rw [HLN.out]; exact hjn))
              clear hce hbw
              obtain ⟨p, hp⟩ : ∃ p, p = (l.getD j (0, 0)).1 := ⟨_, rfl⟩
              obtain ⟨q, hq⟩ : ∃ q, q = (l.getD j (0, 0)).2 := ⟨_, rfl⟩
              rw [← hp] at hd1 hw2 HFT
              rw [← hq] at hd2 hw2 HFT
              clear hp hq
              have HW2 := Lib.hid hw2
              clear hw2
              go_wp2_with (first | (at_mapUpdate; refine wpList_mapUpdate_F _ rfl _ _ _ rfl (wo.heap.size + 1) j (findM (l.take j)) p q (by rfl) (by rfl) (by rfl) (hmj.alloc _) (by omega) HW2.out.1 HW2.out.2 ?_; intro w3 hm3 hg3))
              have hcy3 : w3.cell? ⟨wo.heap.size, 0, none⟩ = some (.int .i64 y) := hg3.cell (((Below.refl wr.heap.size wr).alloc (Nat.le_refl _) _).cell (p := ⟨wo.heap.size, 0, none⟩) (World.block_lt_of_cell? wr ⟨wo.heap.size, 0, none⟩ hcy) |>.trans hcy) (by simp)
              have hb3 : Below wo.heap.size wo w3 := (hbi.alloc hbi.size _).grown hg3 (by have := hbi.size; simp; omega) (fun k hk => by simp at hk; omega)
              clear hg3 hmj hcy hbi
              go_roundw
              case rel => exact ⟨j + 1, by omega, by go_num, by rw [HFT.out]; exact hm3, hcy3, hb3⟩
              case measure => simp [intOf]; omega
            · obtain rfl : j = n' := by omega
              have e : l.take j = l := List.take_of_length_le (by rw [HLN.out]; omega)
              rw [e] at hmj
              have HMJ := Lib.hid (hmj.mono (show j ≤ 100 by omega))
              obtain ⟨xs, hO⟩ := hfw
              have hO1 := hO.below hbi
              have HOO := Lib.hid hO1
              have hgi : k < (fillO L k).length := by rw [fillO_len L k (by rw [HN.out]; exact hk), HN.out]; exact hlt
              have hfg := fillO_get L k (by rw [HN.out]; exact hlt)
              obtain ⟨x0, hx0, hcx0, hox0, -⟩ := hO1.at (k := k * 2) (c := .int 0) (by have := flatMap_get (wlC 100) 2 (wlC_len 100) (fillO L k) k 0 none hfg (by omega); rw [Nat.add_zero] at this; exact this)
              obtain ⟨x1, hx1, hcx1, hox1, -⟩ := hO1.at (k := k * 2 + 1) (c := .noMap) (flatMap_get (wlC 100) 2 (wlC_len 100) (fillO L k) k 1 none hfg (by omega))
              have hfr0 := hO1.1.frozenAt (k * 2)
              have hfr1 := hO1.1.frozenAt (k * 2 + 1)
              obtain rfl := hox0.1
              obtain rfl : x1 = .map none := hox1
              have HB := Lib.hid (hb.trans (hbi.mono hb.size))
              have HSZ := Lib.hid hbi.size
              clear e hmj hO hO1 hgi hfg hx0 hx1 hox0 hce hb
              go_wp2
              go_roundw
              case rel => exact ⟨k + 1, by omega, by go_num, HST.out _ xs _ HOO.out HMJ.out (by omega) HSZ.out, (HB.out.setCell (p := ⟨g, k * 2, none⟩) hbs _).setCell (p := ⟨g, k * 2 + 1, none⟩) hbs _⟩
              case measure => simp [intOf]; omega
        · obtain rfl : n' = 0 := by omega
          obtain rfl : l = [] := List.eq_nil_of_length_eq_zero HLN.out
          go_loopw [30] (fun i wr => i = .int .i64 0 ∧ wr = wi) (fun _ _ => 0)
          case atStart => exact ⟨rfl, rfl⟩
          case round =>
            obtain ⟨rfl, rfl⟩ := hrel
            have HMJ := Lib.hid (hmm0.mono (show 0 ≤ 100 by omega))
            obtain ⟨xs, hO⟩ := hfw
            have hO1 := hO.below hbi0
            have HOO := Lib.hid hO1
            have hfg := fillO_get L k (by rw [HN.out]; exact hlt)
            obtain ⟨x0, hx0, hcx0, hox0, -⟩ := hO1.at (k := k * 2) (c := .int 0) (by have := flatMap_get (wlC 100) 2 (wlC_len 100) (fillO L k) k 0 none hfg (by omega); rw [Nat.add_zero] at this; exact this)
            obtain ⟨x1, hx1, hcx1, hox1, -⟩ := hO1.at (k := k * 2 + 1) (c := .noMap) (flatMap_get (wlC 100) 2 (wlC_len 100) (fillO L k) k 1 none hfg (by omega))
            have hfr0 := hO1.1.frozenAt (k * 2)
            have hfr1 := hO1.1.frozenAt (k * 2 + 1)
            obtain rfl := hox0.1
            obtain rfl : x1 = .map none := hox1
            have HB := Lib.hid (hb.trans (hbi0.mono hb.size))
            have HSZ := Lib.hid hbi0.size
            clear hO hO1 hfg hx0 hx1 hox0 hb hmm0 hbi0
            go_wp2
            go_roundw
            case rel => exact ⟨k + 1, by omega, by go_num, HST.out _ xs _ HOO.out HMJ.out (by omega) HSZ.out, (HB.out.setCell (p := ⟨g, k * 2, none⟩) hbs _).setCell (p := ⟨g, k * 2 + 1, none⟩) hbs _⟩
            case measure => simp [intOf]; omega
      · obtain rfl : k = n := by omega
        have e : fillO L k = L.map some := by rw [← HN.out]; exact fillO_all L
        obtain ⟨xs, hO⟩ := hfw
        rw [e] at hO
        have HOO := Lib.hid hO
        clear hO e hc
        go_wp2
        go_ret2
        have := HN.out
        subst this
        exact ⟨_, _, rfl, ⟨xs, HOO.out⟩, hb⟩
  · obtain rfl : n = 0 := by omega
    obtain rfl : L = [] := List.eq_nil_of_length_eq_zero HN.out
    have HM := Lib.hid hm0
    clear hc hm0
    go_loopw [18] (fun i wr => i = .int .i64 0 ∧ wr = w2) (fun _ _ => 0)
    case atStart => exact ⟨rfl, rfl⟩
    case round =>
      obtain ⟨rfl, rfl⟩ := hrel
      go_wp2
      go_ret2
      exact ⟨_, _, rfl, HM.out, hb2⟩
end Go.Proofs.Ytakbkomgmajnfaa
/- The contract of the program's listOf. -/
namespace Go.Proofs.Ytakbkomgmajnfaa
open Go.RowKit Go.Maps
set_option linter.unusedVariables false
theorem infoLay : (Try.prog.info? 102).map (fun i => (i.zero, i.size, i.bytes)) = some (some (.agg #[.int .i64 0, .slice none 0 0]), 2, 32) := by kernel_rfl
set_option maxRecDepth 100000 in
set_option maxHeartbeats 4000000 in
theorem listOf_impl (K g cap : Nat) (L : List Lay) (B T : Nat) (w : World) (h : OwnW K w B T (.slice (some ⟨g, 0, none⟩) L.length cap) L) (hL : layersB L = true) (hwf : ∀ x ∈ L, (Lit.int .i64 x.1).wf = true) (hcap : L.length ≤ cap) :
    Calls Try.prog 75 #[.slice (some ⟨g, 0, none⟩) L.length cap] w (NewLL w 102 32 L) := by
  have HO := Lib.hid h; clear h
  have HL := Lib.hid hL; clear hL
  have HWF := Lib.hid hwf; clear hwf
  have h20 := ((layersB_iff L).1 HL.out).2
  obtain ⟨n, hn⟩ : ∃ n, n = L.length := ⟨_, rfl⟩
  rw [← hn] at h20 hcap HO ⊢
  have HN := Lib.hid hn.symm; clear hn
  obtain ⟨i0, hi, hz0, hz1, hz2⟩ := info_parts infoLay
  go_enter Try.func75, Try.ntmps75
  go_wp2_with (first | (at_make; refine wpList_make_full _ rfl (.tmp 7) (.tmp 7) 54 rfl w.heap.size 102 i0 (.agg #[.int .i64 0, .slice none 0 0]) 2 Try.underlying54 hi hz0 hz1 .i64 .i64 n n n rfl rfl rfl rfl (by rw [hz2]; omega) (by unfold maxLen; omega) (Nat.le_refl _) ?_; intro w2 hown hgrow; clear hi hz0 hz1 hz2))
  have hb2 : Below w.heap.size w w2 := (Below.refl _ _).grown hgrow (Nat.le_refl _) (fun k hk => by simp at hk)
  have hg2 : w.heap.size < w2.heap.size := (hown.lt w.heap.size rfl).2
  have ho2 := own2_made (T := w2.heap.size) (.int .i64 0) (.slice none 0 0) (.int 0) (.ents 32 []) olC none rfl hown (fun b hb => by simp [blk] at hb; omega) ⟨rfl, by decide⟩ (ents_nil _ _) rfl rfl olC_len
  have hm0 : FillL w2 w.heap.size w.heap.size n L 0 := ⟨_, by rw [fillO_zero, HN.out]; exact ho2⟩
  clear hown hgrow ho2
  go_loopw [11] (fun i wr => ∃ k : Nat, k ≤ n ∧ i = .int .i64 k ∧ FillL wr w.heap.size w.heap.size n L k ∧ Below w.heap.size w wr) (fun i _ => n - (intOf i).toNat)
  case atStart => exact ⟨0, Nat.zero_le _, rfl, hm0, hb2⟩
  case round =>
    clear hm0 hb2 hg2
    obtain ⟨k, hk, rfl, hfw, hb⟩ := hrel
    by_cases hlt : k < n
    · have hOr := HO.out.below (w' := wr) hb
      obtain ⟨m, hc1, hc2, hm, -⟩ := hOr.at k (by rw [HN.out]; exact hlt)
      have hwr := lay_wr HL.out k (by rw [HN.out]; exact hlt)
      have hwl := wr_len ((writesB_ok _).2 hwr)
      have hwf := HWF.out _ (getD_memL L k (by rw [HN.out]; exact hlt))
      obtain ⟨xs, hO⟩ := hfw
      have hfg := fillO_get L k (by rw [HN.out]; exact hlt)
      obtain ⟨x0, -, hcx0, hox0, -⟩ := hO.at (k := k * 2) (c := .int 0) (by have := flatMap_get olC 2 olC_len (fillO L k) k 0 none hfg (by omega); rw [Nat.add_zero] at this; exact this)
      obtain ⟨x1, -, hcx1, -, -⟩ := hO.at (k := k * 2 + 1) (c := .ents 32 []) (flatMap_get olC 2 olC_len (fillO L k) k 1 none hfg (by omega))
      obtain rfl := hox0.1
      have hfr0 := hO.1.frozenAt (k * 2)
      have hfr1 := hO.1.frozenAt (k * 2 + 1)
      have hgw : w.heap.size < wr.heap.size := (hO.1.lt w.heap.size rfl).2
      have HST := Lib.hid (fun (W : World) (v : Value) (h : Own2 W w.heap.size wr.heap.size 102 2 (.slice (some ⟨w.heap.size, 0, none⟩) n n) n ((fillO L k).flatMap olC) xs) (hv : W.ownsRow wr.heap.size 32 2 v (L.getD k (0, [])).2.length (flatE (L.getD k (0, [])).2)) (hwf2 : WfE (L.getD k (0, [])).2) (h2 : wr.heap.size ≤ W.heap.size) => FillL.store h (by rw [HN.out]; exact hlt) v hv hwf2 (by omega) hb.size hwf h2)
      have HW := Lib.hid (wrOf_find hwr)
      have HBD := Lib.hid (bdF_find hwr.2)
      have HO2 := Lib.hid hO
      clear hOr hwr hwl hwf hfg hox0 hO
      obtain ⟨y, hy⟩ : ∃ y, y = (L.getD k (0, [])).1 := ⟨_, rfl⟩
      obtain ⟨l, hll⟩ : ∃ l, l = (L.getD k (0, [])).2 := ⟨_, rfl⟩
      rw [← hy] at hc1 HST
      rw [← hll] at hm HST HW HBD
      clear hy hll
      obtain ⟨f, hf⟩ : ∃ f, f = findM l := ⟨_, rfl⟩
      rw [← hf] at hm HW HBD
      clear hf
      have hd0 : (wr.alloc (.cells #[.int .i64 y, .map (some m)] 105)).cell? ⟨wr.heap.size, 0, none⟩ = some (.int .i64 y) := by simp [go_sem]
      have hd1 : (wr.alloc (.cells #[.int .i64 y, .map (some m)] 105)).cell? ⟨wr.heap.size, 1, none⟩ = some (.map (some m)) := by simp [go_sem]
      have hbw := (Below.refl wr.heap.size wr).alloc (Nat.le_refl _) (.cells #[.int .i64 y, .map (some m)] 105)
      have hm1 := hm.below hbw
      have hz1 : wr.heap.size < (wr.alloc (.cells #[.int .i64 y, .map (some m)] 105)).heap.size := by simp
      have hcx0' := (hbw.cell (p := ⟨w.heap.size, k * 2, none⟩) hgw).trans hcx0
      have hcx1' := (hbw.cell (p := ⟨w.heap.size, k * 2 + 1, none⟩) hgw).trans hcx1
      have hfr0' := (hbw.frozen (p := ⟨w.heap.size, k * 2, none⟩) hgw).trans hfr0
      have hfr1' := (hbw.frozen (p := ⟨w.heap.size, k * 2 + 1, none⟩) hgw).trans hfr1
      have q1 : (0 : Int) ≤ (k : Int) := by omega
      have q2 : (k : Int) < (n : Int) := by omega
      go_wp2
      obtain ⟨w1, hw1⟩ : ∃ w1, w1 = wr.alloc (.cells #[.int .i64 y, .map (some m)] 105) := ⟨_, rfl⟩
      rw [← hw1] at hd0 hd1 hbw hm1 hz1 hcx0' hcx1' hfr0' hfr1' ⊢
      clear hw1 hcx0 hcx1 hfr0 hfr1 hm hc1 hc2
      have hgw1 : w.heap.size < w1.heap.size := by omega
      go_region_with (go_at_call 89; refine (writes_impl y m K f _ (show MapF w1.drew m K f from hm1) HBD.out).mono ?_; rintro e w3 ⟨v, rfl, hov, hwv, hb3⟩; obtain ⟨sa, sn, sc, rfl⟩ := slice_form hov; have hb3' : Below w1.heap.size w1 w3 := (Below.refl _ w1).drew.trans hb3; have hd03 := (hb3'.cell (p := ⟨wr.heap.size, 0, none⟩) hz1).trans hd0; have hcx03 := (hb3'.cell (p := ⟨w.heap.size, k * 2, none⟩) hgw1).trans hcx0'; have hcx13 := (hb3'.cell (p := ⟨w.heap.size, k * 2 + 1, none⟩) hgw1).trans hcx1'; have hfr03 := (hb3'.frozen (p := ⟨w.heap.size, k * 2, none⟩) hgw1).trans hfr0'; have hfr13 := (hb3'.frozen (p := ⟨w.heap.size, k * 2 + 1, none⟩) hgw1).trans hfr1')
      all_goals
        have hO3 := (HO2.out.below hbw).below hb3'
        have hs1 := hbw.size
        have hs3 := hb3'.size
        have hovT : w3.ownsRow wr.heap.size 32 2 (.slice sa sn sc) l.length (flatE l) := by rw [← HW.out]; exact owns_mono hov (Nat.le_trans hs1 (Nat.le_refl _))
        have hwvT : WfE l := by rw [← HW.out]; exact hwv
        have HF := Lib.hid (HST.out w3 _ hO3 hovT hwvT (by omega))
        have HB := Lib.hid (hb.trans ((hbw.trans (hb3'.mono hs1)).mono hb.size))
        clear hO3 hovT hwvT hb3 hb3' hov hwv hd03 hcx03 hcx13 hfr03 hfr13 hd0 hd1 hbw hm1 hcx0' hcx1' hfr0' hfr1' hb
        go_wp2
        go_roundw
        case rel => exact ⟨k + 1, by omega, by go_num, HF.out, (HB.out.setCell (p := ⟨w.heap.size, k * 2, none⟩) (Nat.le_refl _) _).setCell (p := ⟨w.heap.size, k * 2 + 1, none⟩) (Nat.le_refl _) _⟩
        case measure => simp [intOf]; omega
    · obtain rfl : k = n := by omega
      have e : (fillO L k).flatMap olC = L.flatMap (layC 32) := by rw [← HN.out, fillO_all]; exact olC_all L
      obtain ⟨xs, hO⟩ := hfw
      rw [e] at hO
      have HO2 := Lib.hid hO
      clear hO e
      go_wp2
      go_ret
      exact ⟨_, rfl, ⟨by rw [HN.out]; omega, xs, by rw [HN.out]; exact HO2.out⟩, hb⟩
end Go.Proofs.Ytakbkomgmajnfaa
/- The contract of the program's seenIn. -/
namespace Go.Proofs.Ytakbkomgmajnfaa
open Go.RowKit Go.Maps
set_option linter.unusedVariables false
def seenOk (S : List Ent) (L : List Lay) (n : Int) : Bool := storeB S && layersB L && inB n (-1) ((L.length : Int) - 1)
/-- The values that are seen, zeros where there are none. -/
def seenVals (S : List Ent) (L : List Lay) (n : Int) : List Int := if seenOk S L n then readArr S L n else zeros
theorem seenVals_len (S : List Ent) (L : List Lay) (n : Int) : (seenVals S L n).length = 32 := by unfold seenVals; split; exact readArr_len _ _ _; rfl
/-- The first k of R, the others of A. -/
def mixA (A R : List Int) (k : Nat) : List Int := R.take k ++ A.drop k
theorem mixA_zero (A R : List Int) : mixA A R 0 = A := by simp [mixA]
theorem mixA_all (A R : List Int) (k : Nat) (h : A.length ≤ k) (h' : R.length ≤ k) : mixA A R k = R := by simp [mixA, List.take_of_length_le h', List.drop_eq_nil_of_le h]
theorem mixA_len (A R : List Int) (k : Nat) (h : A.length = R.length) (hk : k ≤ A.length) : (mixA A R k).length = A.length := by simp [mixA]; omega
theorem mixA_set (A R : List Int) (k : Nat) (v : Int) (hA : k < A.length) (hR : k < R.length) (hv : R.getD k 0 = v) : (mixA A R k).set k v = mixA A R (k + 1) := by
  unfold mixA
  have e : (R.take k).length = k := by rw [List.length_take]; omega
  rw [List.set_append_right _ _ (by rw [e]; exact Nat.le_refl _), e, Nat.sub_self, List.drop_eq_getElem_cons hA, List.set_cons_zero, List.take_succ_eq_append_getElem hR, List.append_assoc]
  rw [List.getD_eq_getElem?_getD, List.getElem?_eq_getElem hR] at hv
  simp at hv
  rw [hv]; rfl
theorem mixA_skip (A R : List Int) (k : Nat) (hA : k < A.length) (hR : k < R.length) (hv : R.getD k 0 = A.getD k 0) : mixA A R k = mixA A R (k + 1) := by
  have h := mixA_set A R k (A.getD k 0) hA hR hv
  rw [← h]
  apply List.ext_getElem?
  intro i
  rw [List.getElem?_set]
  split
  · rename_i hk; subst hk
    unfold mixA
    have e : (R.take k).length = k := by rw [List.length_take]; omega
    rw [if_pos (by rw [List.length_append, e, List.length_drop]; omega), List.getElem?_append_right (by rw [e]; exact Nat.le_refl _), e, Nat.sub_self, List.getElem?_drop, Nat.add_zero, getD_some A k 0 hA]
  · rfl
theorem readArr_some {S : List Ent} {L : List Lay} {n : Int} {k : Nat} {v : Int} (hk : k < 32) (h : seen L n k = some v) : (readArr S L n).getD k 0 = v := by
  rw [readArr_get _ _ _ _ hk, readM, h]; rfl
theorem readArr_none {S : List Ent} {L : List Lay} {n : Int} {k : Nat} (hk : k < 32) (h : seen L n k = none) : (readArr S L n).getD k 0 = (arrOf S).getD k 0 := by
  rw [readArr_get _ _ _ _ hk, readM, h, arrOf_get _ _ hk]; rfl
/-- Some slice, and whether the layers are valid. -/
def WrAny (L : List Lay) (w : World) (e : Ending) (w' : World) : Prop := ∃ v, e = .returned (.tuple #[v, .bool (layersB L)]) ∧ Below w.heap.size w w'
theorem writtenLayers_any (a : Option Addr) (n cap : Nat) (L : List Lay) (w : World) (h : RowL w a n L) (hcap : n ≤ cap) :
    Calls Try.prog 73 #[.slice a n cap] w (WrAny L w) := by
  cases hL : layersB L with
  | false => exact (writtenLayers_no a n cap L w h hcap hL).mono fun e w' ⟨h1, h2⟩ => ⟨_, by rw [hL]; exact h1, h2⟩
  | true => exact (writtenLayers_yes a n cap L w h hcap hL).mono fun e w' ⟨g, c, h1, h2, h3⟩ => ⟨_, by rw [hL]; exact h1, h3⟩
set_option maxHeartbeats 4000000 in
theorem seenIn_no (a b : Option Addr) (n m cap cap' : Nat) (S : List Ent) (L : List Lay) (k : Int) (w : World) (h : RowE w a n S) (h' : RowL w b m L) (hcap : m ≤ cap') (hk : seenOk S L k = false) :
    Calls Try.prog 77 #[.slice a n cap, .slice b m cap', .int .i64 k] w (ArrB zeros false w) := by
  have HK := Lib.hid hk; clear hk
  have HN := Lib.hid h'.1
  have hmx := Lib.hid h'.2.1
  go_enter Try.func77, Try.ntmps77
  go_wp2_with fail
  have hb0 := (Below.refl w.heap.size w).alloc (Nat.le_refl _) (.cells (cellsI zeros) 83)
  have hA0 := Arr.new w 83 zeros
  refine (valuesOf_any a n cap S _ (h.below hb0)).mono ?_; rintro e w1 ⟨rfl, hb1'⟩
  have hA1 := hA0.after hb1'
  have hb1 := hb0.trans (hb1'.mono hb0.size)
  have hlt1 := hA1.lt
  have HL := Lib.hid (valsM_len S)
  obtain ⟨A, hA⟩ : ∃ A, A = valsM S := ⟨_, rfl⟩
  rw [← hA] at HL ⊢
  clear hA hA0 hb0 hb1'
  have hAv := Arr.new w1 83 zeros
  go_wp2_with (first | (refine wpList_store_arr' rfl _ _ _ rfl _ A (by rfl) (by rfl) 83 _ hAv (by rw [HL.out]; exact infoArr) (by rw [HL.out]; rfl) ?_; intro w2 hA2 hg2 hz2; have hb2 := below_new hb1 hg2; have hA02 : Arr w2 w.heap.size 83 zeros := (hA1.alloc _).grown hg2 (by simp; omega); clear hg2 hz2))
  clear hA1 hAv hb1
  refine (writtenLayers_any b m cap' L _ (h'.below hb2) hcap).mono ?_; rintro e w3 ⟨v, rfl, hb3'⟩
  have hA03 := hA02.after hb3'
  have hb3 := hb2.trans (hb3'.mono hb2.size)
  clear hA02 hb2 hb3' hA2
  cases hs : storeB S with
  | false =>
    clear hs
    go_wp2_with (first | (refine wpList_store_arr' rfl _ _ _ rfl _ zeros (by rfl) (by rfl) 83 _ hA03 infoArr rfl ?_; intro w4 hA4 hg4 hz4))
    exact bodyPost_ret (results_arr_slot Try.results77 _ (by rfl) (.bool false) (by rfl) hA4 _ _ Try.underlying83 infoArr) rfl ⟨rfl, hb3.grown hg4 hb3.size (fun k hk => by simp at hk; omega)⟩
  | true =>
    cases hl : layersB L with
    | false =>
      clear hl hs
      go_wp2_with (first | (refine wpList_store_arr' rfl _ _ _ rfl _ zeros (by rfl) (by rfl) 83 _ hA03 infoArr rfl ?_; intro w4 hA4 hg4 hz4))
      exact bodyPost_ret (results_arr_slot Try.results77 _ (by rfl) (.bool false) (by rfl) hA4 _ _ Try.underlying83 infoArr) rfl ⟨rfl, hb3.grown hg4 hb3.size (fun k hk => by simp at hk; omega)⟩
    | true =>
      have HI : Hid (inB k (-1) ((m : Int) - 1) = false) := Lib.hid (by have := HK.out; rw [seenOk, hs, hl, HN.out] at this; simpa using this)
      clear hl hs
      go_wp2_with (first | (go_at_call 74; refine (isLayerOrStore_impl _ _ _ _ _ hmx.out).mono ?_; rintro e w' ⟨rfl, rfl⟩; rw [HI.out]) | (refine wpList_store_arr' rfl _ _ _ rfl _ zeros (by rfl) (by rfl) 83 _ hA03 infoArr rfl ?_; intro w4 hA4 hg4 hz4))
      exact bodyPost_ret (results_arr_slot Try.results77 _ (by rfl) (.bool false) (by rfl) hA4 _ _ Try.underlying83 infoArr) rfl ⟨rfl, hb3.grown hg4 hb3.size (fun k hk => by simp at hk; omega)⟩
set_option maxHeartbeats 4000000 in
theorem seenIn_yes (a b : Option Addr) (n m cap cap' : Nat) (S : List Ent) (L : List Lay) (k : Int) (w : World) (h : RowE w a n S) (h' : RowL w b m L) (hcap : m ≤ cap') (hk : seenOk S L k = true) :
    Calls Try.prog 77 #[.slice a n cap, .slice b m cap', .int .i64 k] w (ArrB (readArr S L k) true w) := by
  have HN := Lib.hid h'.1
  have hmx := Lib.hid h'.2.1
  simp only [seenOk, Bool.and_eq_true] at hk
  obtain ⟨⟨hs, hl⟩, hi⟩ := hk
  have hib := inB_true hi
  obtain ⟨ib0, ib1⟩ := hib
  have HS := Lib.hid hs
  have HLV := Lib.hid hl
  have HI := Lib.hid (show inB k (-1) ((m : Int) - 1) = true by rw [← HN.out]; exact hi)
  clear hs hl hi
  go_enter Try.func77, Try.ntmps77
  go_wp2_with fail
  have hb0 := (Below.refl w.heap.size w).alloc (Nat.le_refl _) (.cells (cellsI zeros) 83)
  have hA0 := Arr.new w 83 zeros
  refine (valuesOf_any a n cap S _ (h.below hb0)).mono ?_; rintro e w1 ⟨rfl, hb1'⟩
  have hA1 := hA0.after hb1'
  have hb1 := hb0.trans (hb1'.mono hb0.size)
  have hlt1 := hA1.lt
  have HL := Lib.hid (valsM_len S)
  have HA : Hid (valsM S = arrOf S) := Lib.hid (by simp [valsM, HS.out])
  rw [HS.out]
  obtain ⟨A, hA⟩ : ∃ A, A = valsM S := ⟨_, rfl⟩
  rw [← hA] at HL HA ⊢
  clear hA hA0 hb0 hb1'
  have hAv := Arr.new w1 83 zeros
  go_wp2_with (first | (refine wpList_store_arr' rfl _ _ _ rfl _ A (by rfl) (by rfl) 83 _ hAv (by rw [HL.out]; exact infoArr) (by rw [HL.out]; rfl) ?_; intro w2 hA2 hg2 hz2; have hb2 := below_new hb1 hg2; have hA02 : Arr w2 w.heap.size 83 zeros := (hA1.alloc _).grown hg2 (by simp; omega); clear hg2 hz2))
  clear hA1 hAv hb1
  refine (writtenLayers_yes b m cap' L _ (h'.below hb2) hcap HLV.out).mono ?_; rintro e w3 ⟨g, cg, rfl, hO, hb3'⟩
  have hA03 := hA02.after hb3'
  have hA3 := hA2.after hb3'
  have hlt2 := hA2.lt
  have hb3 := hb2.trans (hb3'.mono hb2.size)
  clear hA02 hb2 hb3' hA2
  go_wp2_with (first | (go_at_call 74; refine (isLayerOrStore_impl _ _ _ _ _ hmx.out).mono ?_; rintro e w' ⟨rfl, rfl⟩; rw [HI.out]))
  have HR := Lib.hid (readArr_len S L k)
  have HAA := Lib.hid (arrOf_len S)
  have hm0 : Arr w3 w1.heap.size 83 (mixA (arrOf S) (readArr S L k) 0) := by rw [mixA_zero, ← HA.out]; exact hA3
  clear hA3
  obtain ⟨gv, hgv⟩ : ∃ gv, gv = w1.heap.size := ⟨_, rfl⟩
  rw [← hgv] at hm0 hlt1 hlt2 ⊢
  clear hgv
  go_loopw [38] (fun i wr => ∃ j : Nat, j ≤ 32 ∧ i = .int .i64 j ∧ Arr wr gv 83 (mixA (arrOf S) (readArr S L k) j) ∧ Arr wr w.heap.size 83 zeros ∧ OwnW 100 wr w2.heap.size w3.heap.size (.slice (some ⟨g, 0, none⟩) L.length cg) L ∧ Below w.heap.size w wr) (fun i _ => 32 - (intOf i).toNat)
  case atStart => exact ⟨0, by omega, rfl, hm0, hA03, hO, hb3⟩
  case round =>
    clear hm0 hA03 hO hb3
    obtain ⟨j, hj, rfl, hAm, hA0, hO, hb⟩ := hrel
    by_cases hlt : j < 32
    · have hwk : (Lit.int .i64 (j : Int)).wf = true := WalkArith.wf_i64 (by omega)
      have HWK := Lib.hid hwk; clear hwk
      cases hsn : seen L k (j : Int) with
      | none =>
        have HX := Lib.hid (mixA_skip (arrOf S) (readArr S L k) j (by rw [HAA.out]; exact hlt) (by rw [HR.out]; exact hlt) (readArr_none hlt hsn))
        have HSN := Lib.hid hsn
        clear hsn
        go_wp2_with (first | (go_at_call 95; refine (writtenAt_impl 100 g _ cg L k j _ _ _ hO HLV.out ib0 (by omega) HWK.out).mono ?_; rintro e w' ⟨rfl, rfl⟩; rw [HSN.out]))
        go_roundw
        case rel => exact ⟨j + 1, by omega, by go_num, by rw [← HX.out]; exact hAm, hA0, hO, hb⟩
        case measure => simp [intOf]; omega
      | some v =>
        have HX := Lib.hid (mixA_set (arrOf S) (readArr S L k) j v (by rw [HAA.out]; exact hlt) (by rw [HR.out]; exact hlt) (readArr_some hlt hsn))
        have HSN := Lib.hid hsn
        clear hsn
        have hml := mixA_len (arrOf S) (readArr S L k) j (by rw [HAA.out, HR.out]) (by rw [HAA.out]; omega)
        rw [HAA.out] at hml
        have hcm := hAm.cell j (by omega)
        have hfm := hAm.frozen j
        have hlm := hAm.lt
        have HT := Lib.hid (fun u : Value => (Turn.refl gv (gv + 1) wr).setCell (g := gv) ⟨Nat.le_refl _, Nat.lt_succ_self _⟩ j u)
        obtain ⟨MX, hMX⟩ : ∃ MX, MX = mixA (arrOf S) (readArr S L k) j := ⟨_, rfl⟩
        rw [← hMX] at hAm hcm HX
        clear hMX hml
        have HS2 := Lib.hid (hAm.set j v)
        have HO2 := Lib.hid hO
        have HA2 := Lib.hid hA0
        have HB2 := Lib.hid hb
        go_wp2_with (first | (go_at_call 95; refine (writtenAt_impl 100 g _ cg L k j _ _ _ HO2.out HLV.out ib0 (by omega) HWK.out).mono ?_; rintro e w' ⟨rfl, rfl⟩; rw [HSN.out]))
        go_roundw
        case rel => exact ⟨j + 1, by omega, by go_num, by rw [← HX.out]; exact HS2.out, HA2.out.setOther _ _ (by simp; omega), (by obtain ⟨xs, h1⟩ := HO2.out; exact ⟨xs, h1.turn (HT.out _) (.inr (.inl (by omega)))⟩), HB2.out.setCell (by simp; omega) _⟩
        case measure => simp [intOf]; omega
    · obtain rfl : j = 32 := by omega
      rw [mixA_all _ _ _ (by rw [HAA.out]; exact Nat.le_refl _) (by rw [HR.out]; exact Nat.le_refl _)] at hAm
      obtain ⟨R, hR⟩ : ∃ R, R = readArr S L k := ⟨_, rfl⟩
      rw [← hR] at hAm HR
      have HRR := Lib.hid hR
      clear hR
      go_wp2_with (first | (refine wpList_load_arr rfl _ _ rfl _ (by rfl) 83 R hAm _ _ Try.underlying83 (by rw [HR.out]; exact infoArr) ?_) | (refine wpList_store_arr' rfl _ _ _ rfl _ R (by rfl) (by rfl) 83 _ hA0 (by rw [HR.out]; exact infoArr) (by rw [HR.out]; rfl) ?_; intro w4 hA4 hg4 hz4))
      exact bodyPost_ret (results_arr_slot Try.results77 _ (by rfl) (.bool true) (by rfl) hA4 _ _ Try.underlying83 (by rw [HR.out]; exact infoArr)) rfl ⟨by rw [HRR.out], hb.grown hg4 hb.size (fun k hk => by simp at hk; omega)⟩
theorem seenIn_any (a b : Option Addr) (n m cap cap' : Nat) (S : List Ent) (L : List Lay) (k : Int) (w : World) (h : RowE w a n S) (h' : RowL w b m L) (hcap : m ≤ cap') :
    Calls Try.prog 77 #[.slice a n cap, .slice b m cap', .int .i64 k] w (ArrB (seenVals S L k) (seenOk S L k) w) := by
  cases hk : seenOk S L k with
  | false => rw [show seenVals S L k = zeros by simp [seenVals, hk]]; exact seenIn_no a b n m cap cap' S L k w h h' hcap hk
  | true => rw [show seenVals S L k = readArr S L k by simp [seenVals, hk]]; exact seenIn_yes a b n m cap cap' S L k w h h' hcap hk
end Go.Proofs.Ytakbkomgmajnfaa
/- The contracts of the program's LayerRead, LayerStore, ForkLayer, LayerWrite. -/
namespace Go.Proofs.Ytakbkomgmajnfaa
open Go.RowKit Go.Maps
set_option linter.unusedVariables false
theorem layerReadM_ok (S : List Ent) (L : List Lay) (n key : Int) : layerReadM S L n key = if seenOk S L n && inB key 0 31 then readM S L n key else -1 := rfl
theorem layerStoreM_ok (S : List Ent) (L : List Lay) (n : Int) : layerStoreM S L n = if seenOk S L n then entTo (readArr S L n) 32 else [] := rfl
/-- A list of pairs, new or nil, that can be owned. -/
theorem wfE_ok {l : List Ent} (h : Ok l) : WfE l := fun e he => by have := h.2 e he; exact ⟨WalkArith.wf_i64 (by omega), WalkArith.wf_i64 (by omega)⟩
theorem layerStore_wf (S : List Ent) (L : List Lay) (k : Int) : WfE (layerStoreM S L k) := by
  rw [layerStoreM_ok]
  cases hs : seenOk S L k with
  | false => intro e he; cases he
  | true =>
    simp only [seenOk, Bool.and_eq_true] at hs
    obtain ⟨⟨h1, h2⟩, h3⟩ := hs
    have := inB_true h3
    exact wfE_ok (ok_entTo (bdA_read h1 h2 (by omega)))
set_option maxHeartbeats 1000000 in
theorem layerStore_impl (a b : Option Addr) (n m cap cap' : Nat) (S : List Ent) (L : List Lay) (k : Int) (w : World) (h : RowE w a n S) (h' : RowL w b m L) (hcap : m ≤ cap') :
    Calls Try.prog 41 #[.slice a n cap, .slice b m cap', .int .i64 k] w (NewW w (layerStoreM S L k)) := by
  have HWF := Lib.hid (layerStore_wf S L k)
  go_enter Try.func41, Try.ntmps41
  go_wp2_with fail
  refine (seenIn_any a b n m cap cap' S L k _ h h' hcap).mono ?_; rintro e w1 ⟨rfl, hb⟩
  have HE : Hid (seenOk S L k = true → entTo (seenVals S L k) 32 = layerStoreM S L k) := Lib.hid (fun hs => by simp [seenVals, layerStoreM_ok, hs])
  have hA0 := Arr.new w1 83 zeros
  have HL := Lib.hid (seenVals_len S L k)
  obtain ⟨A, hA⟩ : ∃ A, A = seenVals S L k := ⟨_, rfl⟩
  rw [← hA] at HE HL ⊢
  clear hA
  cases hs : seenOk S L k with
  | false =>
    have HV : Hid (layerStoreM S L k = []) := Lib.hid (by simp [layerStoreM_ok, hs])
    clear hs HE
    go_wp2_with (first | (refine wpList_store_arr' rfl _ _ _ rfl _ A (by rfl) (by rfl) 83 _ hA0 (by rw [HL.out]; exact infoArr) (by rw [HL.out]; rfl) ?_; intro w2 hA2 hg2 hz2; have hb2 := below_new hb hg2; clear hg2))
    go_ret
    exact ⟨_, rfl, by rw [HV.out]; exact own_nil _ _ _ _, HWF.out, hb2⟩
  | true =>
    have HE2 := Lib.hid (HE.out hs)
    clear hs HE
    go_wp2_with (first | (refine wpList_store_arr' rfl _ _ _ rfl _ A (by rfl) (by rfl) 83 _ hA0 (by rw [HL.out]; exact infoArr) (by rw [HL.out]; rfl) ?_; intro w2 hA2 hg2 hz2; have hb2 := below_new hb hg2; clear hg2) | (refine wpList_load_arr rfl _ _ rfl _ (by rfl) 83 A hA2 _ _ Try.underlying83 (by rw [HL.out]; exact infoArr) ?_) | (go_at_call 61; refine (entries_impl A _ HL.out).mono ?_; rintro e w3 ⟨v, rfl, hown, hb3⟩))
    go_ret
    rw [HE2.out] at hown
    exact ⟨_, rfl, owns_mono hown hb2.size, HWF.out, hb2.trans (hb3.mono hb2.size)⟩
end Go.Proofs.Ytakbkomgmajnfaa
/- The contracts of the program's ForkLayer and LayerWrite. -/
namespace Go.Proofs.Ytakbkomgmajnfaa
open Go.RowKit Go.Maps
set_option linter.unusedVariables false
theorem ownL_nil (w : World) (B T : Nat) (eL eE : TypeId) : OwnL w B T eL eE (.slice none 0 0) [] := ⟨by simp, [], own2_nil _ _ _ _ _⟩
theorem layC_new (w : World) (n : Int) (hn : (Lit.int .i64 n).wf = true) (T : Nat) : ∀ (i : Nat) (c : Cel) (y : Value), (layC 32 (n, []))[i]? = some c → [Value.int .i64 n, .slice none 0 0][i]? = some y → c.own w y ∧ ∀ b, blk y = some b → T ≤ b := by
  intro i c y hc hy
  match i, hc, hy with
  | 0, hc, hy => simp [layC] at hc hy; subst hc; subst hy; exact ⟨⟨rfl, hn⟩, fun b hb => by cases hb⟩
  | 1, hc, hy => simp [layC] at hc hy; subst hc; subst hy; exact ⟨ents_nil _ _, fun b hb => by cases hb⟩
  | i + 2, hc, hy => simp [layC] at hc
theorem layC_snoc (e : TypeId) (L : List Lay) (x : Lay) : (L ++ [x]).flatMap (layC e) = L.flatMap (layC e) ++ layC e x := by simp [List.flatMap_append]
set_option maxHeartbeats 1000000 in
theorem forkLayer_impl (a : Option Addr) (m cap : Nat) (L : List Lay) (n : Int) (w : World) (h : RowL w a m L) (hcap : m ≤ cap) (hn : (Lit.int .i64 n).wf = true) :
    Calls Try.prog 39 #[.slice a m cap, .int .i64 n] w (NewLB w 102 32 (forkM L n).1 (forkM L n).2) := by
  have HW := Lib.hid hn; clear hn
  have HN := Lib.hid h.1
  have hmx := Lib.hid h.2.1
  have HWF := Lib.hid h.2.2.2
  cases hL : layersB L with
  | false =>
    have HF : Hid (forkM L n = ([], false)) := Lib.hid (by simp [forkM, hL])
    go_enter Try.func39, Try.ntmps39
    go_wp2_with fail
    refine (writtenLayers_no a m cap L _ h hcap hL).mono ?_; rintro e w1 ⟨rfl, hb⟩
    go_wp2
    go_ret2
    rw [HF.out]
    exact ⟨_, rfl, ownL_nil _ _ _ _ _, hb⟩
  | true =>
    have HL := Lib.hid hL
    have h20 := ((layersB_iff L).1 hL).2
    go_enter Try.func39, Try.ntmps39
    go_wp2_with fail
    refine (writtenLayers_yes a m cap L _ h hcap hL).mono ?_; rintro e w1 ⟨g, cg, rfl, hO, hb⟩
    have hcg : L.length ≤ cg := by
      obtain ⟨xs, h1⟩ := hO
      rcases slice_of_owns h1.1 with ⟨h2, _⟩ | ⟨g', cap', h2, _, _, h3, _⟩
      · cases h2
      · simp at h2; omega
    have HO := Lib.hid hO
    clear hL hO h
    cases hi : inB n (-1) ((m : Int) - 1) with
    | false =>
      have HF : Hid (forkM L n = (L, false)) := Lib.hid (by simp [forkM, HL.out, HN.out, hi])
      have HI := Lib.hid hi
      clear hi
      go_wp2_with (first | (go_at_call 74; refine (isLayerOrStore_impl _ _ _ _ _ hmx.out).mono ?_; rintro e w' ⟨rfl, rfl⟩; rw [HI.out]) | (go_at_call 75; refine (listOf_impl 100 g cg L _ _ _ HO.out HL.out HWF.out hcg).mono ?_; rintro e w2 ⟨v, rfl, hv, hb2⟩))
      go_ret2
      rw [HF.out]
      exact ⟨_, rfl, hv.mono hb.size (Nat.le_refl _), hb.trans (hb2.mono hb.size)⟩
    | true =>
      have hib := inB_true hi
      by_cases he : m = 20
      · have HF : Hid (forkM L n = (L, false)) := Lib.hid (by simp [forkM, HL.out, HN.out, he])
        have HI := Lib.hid hi
        have hmb : ((m : Int) == 20) = true := by simp; omega
        clear hi he
        go_wp2_with (first | (go_at_call 74; refine (isLayerOrStore_impl _ _ _ _ _ hmx.out).mono ?_; rintro e w' ⟨rfl, rfl⟩; rw [HI.out]) | (go_at_call 75; refine (listOf_impl 100 g cg L _ _ _ HO.out HL.out HWF.out hcg).mono ?_; rintro e w2 ⟨v, rfl, hv, hb2⟩))
        go_ret2
        rw [HF.out]
        exact ⟨_, rfl, hv.mono hb.size (Nat.le_refl _), hb.trans (hb2.mono hb.size)⟩
      · have HF : Hid (forkM L n = (L ++ [(n, [])], true)) := Lib.hid (by simp [forkM, HL.out, HN.out, hi, he])
        have HI := Lib.hid hi
        have hmb : ((m : Int) == 20) = false := by simp; omega
        clear hi he
        go_wp2_with (first | (go_at_call 74; refine (isLayerOrStore_impl _ _ _ _ _ hmx.out).mono ?_; rintro e w' ⟨rfl, rfl⟩; rw [HI.out]) | (go_at_call 75; refine (listOf_impl 100 g cg L _ _ _ HO.out HL.out HWF.out hcg).mono ?_; rintro e w2 ⟨v, rfl, ⟨hv0, xs, hv⟩, hb2⟩) | (at_builtin; refine wpList_append_el rfl _ _ 54 rfl w1.heap.size w2.heap.size 102 _ (.agg #[.int .i64 0, .slice none 0 0]) 2 32 Try.underlying54 infoLay rfl (by decide) _ _ _ xs (layC 32 (n, [])) [.int .i64 n, .slice none 0 0] (by rfl) hv (by rfl) rfl rfl (layC_new _ _ HW.out _) ?c1 hv0 (by decide) ?c2 ?c3 (Nat.le_refl _) ?_))
        case c1 => refine apart_iff.2 fun i j x y _ hx hy p hp => ?_; have := List.mem_of_getElem? hx; simp at this; rcases this with rfl | rfl <;> cases hp
        case c2 => exact hb2.size
        case c3 => exact hb2.size
        intro v3 w3 xs3 ho3 hnn hb3 hz3
        go_wp2
        go_ret2
        rw [HF.out]
        exact ⟨_, rfl, ⟨by simp; omega, xs3, by rw [layC_snoc, List.length_append]; exact ho3.mono hb.size (Nat.le_refl _)⟩, hb.trans ((hb2.trans hb3).mono hb.size)⟩
theorem wlC_cases (K : Nat) (L : List Lay) (i : Nat) (c : Cel) (h : ((L.map some).flatMap (wlC K))[i]? = some c) : ∃ j, j < L.length ∧ ((i = j * 2 ∧ c = .int (L.getD j (0, [])).1) ∨ (i = j * 2 + 1 ∧ c = .mapF K (findM (L.getD j (0, [])).2))) := by
  have hi := (List.getElem?_eq_some_iff.1 h).1
  rw [flatMap_len (wlC K) 2 (wlC_len K), List.length_map] at hi
  have hj : i / 2 < L.length := by omega
  obtain ⟨h0, h1⟩ := wlC_get K L (i / 2) hj
  rcases (by omega : i = i / 2 * 2 ∨ i = i / 2 * 2 + 1) with e | e
  · rw [← e, h] at h0; exact ⟨_, hj, .inl ⟨e, Option.some.inj h0⟩⟩
  · rw [← e, h] at h1; exact ⟨_, hj, .inr ⟨e, Option.some.inj h1⟩⟩
theorem OwnW.more {K K' : Nat} {w : World} {B T : Nat} {v : Value} {L : List Lay} (h : OwnW K w B T v L) (hK : K ≤ K') : OwnW K' w B T v L := by
  obtain ⟨xs, h1⟩ := h
  refine ⟨xs, h1.imp (by rw [flatMap_len _ 2 (wlC_len K), flatMap_len _ 2 (wlC_len K')]) fun i c c' x hc hc' ho => ?_⟩
  obtain ⟨j, hj, ⟨e, rfl⟩ | ⟨e, rfl⟩⟩ := wlC_cases K L i c hc
  · obtain ⟨j', hj', ⟨e', rfl⟩ | ⟨e', rfl⟩⟩ := wlC_cases K' L i c' hc'
    · obtain rfl : j = j' := by omega
      exact ho
    · omega
  · obtain ⟨j', hj', ⟨e', rfl⟩ | ⟨e', rfl⟩⟩ := wlC_cases K' L i c' hc'
    · omega
    · obtain rfl : j = j' := by omega
      obtain ⟨b, rfl, hm⟩ := ho
      exact ⟨b, rfl, hm.mono hK⟩
/-- The map of a layer, and what it is when one key is written there. -/
theorem OwnW.write {w : World} {B T g cap : Nat} {L : List Lay} (h : OwnW 100 w B T (.slice (some ⟨g, 0, none⟩) L.length cap) L) (j : Nat) (hj : j < L.length) (hA : Asc (L.getD j (0, [])).2) :
    ∃ m, w.cell? ⟨g, j * 2 + 1, none⟩ = some (.map (some m)) ∧ MapF w m 100 (findM (L.getD j (0, [])).2) ∧ B ≤ m ∧
      ∀ key val w', MapF w' m 101 (updF (findM (L.getD j (0, [])).2) key val) → w.grownBy w' (some m) → OwnW 101 w' B T (.slice (some ⟨g, 0, none⟩) L.length cap) (writeL L j key val) := by
  obtain ⟨xs, h1⟩ := h.more (show 100 ≤ 101 by omega)
  obtain ⟨xs0, h0⟩ := h
  obtain ⟨m, hc1, hc2, hm, -⟩ := (show OwnW 100 w B T (.slice (some ⟨g, 0, none⟩) L.length cap) L from ⟨xs0, h0⟩).at j hj
  obtain ⟨x, hx, hcx, hox, hbx⟩ := h1.at (wlC_get 101 L j hj).2
  rw [hc2] at hcx
  obtain rfl : x = .map (some m) := (Option.some.inj hcx).symm
  refine ⟨m, hc2, hm, (hbx m rfl).1, fun key val w' hm' hg => ?_⟩
  have h2 := h1.inner (j * 2 + 1) (.mapF 101 (findM (pm key val (L.getD j (0, [])).2))) hx hg (fun p hp => by cases hp; rfl) ⟨m, rfl, by rw [findM_pm' hA]; exact hm'⟩
  rw [← flatMap_set (wlC 101) 2 (wlC_len 101) (L.map some) j 1 (some (L.getD j (0, []))) (some ((L.getD j (0, [])).1, pm key val (L.getD j (0, [])).2)) _ (by rw [List.getElem?_map, getD_some L j (0, []) hj]; rfl) (by omega) rfl, ← List.map_set] at h2
  have e : writeL L (j : Int) key val = L.set j ((L.getD j (0, [])).1, pm key val (L.getD j (0, [])).2) := by simp [writeL]
  rw [OwnW, e, List.length_set]
  exact ⟨xs, h2⟩
set_option maxHeartbeats 1000000 in
theorem layerWrite_impl (a : Option Addr) (m cap : Nat) (L : List Lay) (n key val : Int) (w : World) (h : RowL w a m L) (hcap : m ≤ cap) (hn : (Lit.int .i64 n).wf = true) :
    Calls Try.prog 40 #[.slice a m cap, .int .i64 n, .int .i64 key, .int .i64 val] w (NewLB w 102 32 (layerWriteM L n key val).1 (layerWriteM L n key val).2) := by
  have HW := Lib.hid hn; clear hn
  have HN := Lib.hid h.1
  have hmx := Lib.hid h.2.1
  have HWF := Lib.hid h.2.2.2
  cases hL : layersB L with
  | false =>
    have HF : Hid (layerWriteM L n key val = ([], false)) := Lib.hid (by simp [layerWriteM, hL])
    go_enter Try.func40, Try.ntmps40
    go_wp2_with fail
    refine (writtenLayers_no a m cap L _ h hcap hL).mono ?_; rintro e w1 ⟨rfl, hb⟩
    go_wp2
    go_ret2
    rw [HF.out]
    exact ⟨_, rfl, ownL_nil _ _ _ _ _, hb⟩
  | true =>
    have HL := Lib.hid hL
    have h20 := ((layersB_iff L).1 hL).2
    go_enter Try.func40, Try.ntmps40
    go_wp2_with fail
    refine (writtenLayers_yes a m cap L _ h hcap hL).mono ?_; rintro e w1 ⟨g, cg, rfl, hO, hb⟩
    have hcg : L.length ≤ cg := by
      obtain ⟨xs, h1⟩ := hO
      rcases slice_of_owns h1.1 with ⟨h2, _⟩ | ⟨g', cap', h2, _, _, h3, _⟩
      · cases h2
      · simp at h2; omega
    have HO := Lib.hid hO
    clear hL hO h
    cases hi : (inB n 0 ((m : Int) - 1) && inB key 0 31 && inB val 0 1000000) with
    | false =>
      have HF : Hid (layerWriteM L n key val = (L, false)) := Lib.hid (by simp only [layerWriteM, HL.out, HN.out, hi]; rfl)
      cases h1 : inB n 0 ((m : Int) - 1) with
      | false =>
        have HI := Lib.hid h1
        clear hi h1
        go_wp2_with (first | (go_at_call 76; refine (isLayer_impl _ _ _ _ _ hmx.out).mono ?_; rintro e w' ⟨rfl, rfl⟩; rw [HI.out]) | (go_at_call 75; refine (listOf_impl 100 g cg L _ _ _ HO.out HL.out HWF.out hcg).mono ?_; rintro e w2 ⟨v, rfl, hv, hb2⟩))
        go_ret2
        rw [HF.out]
        exact ⟨_, rfl, hv.mono hb.size (Nat.le_refl _), hb.trans (hb2.mono hb.size)⟩
      | true =>
        have HI := Lib.hid h1
        cases h2 : inB key 0 31 with
        | false =>
          have HI2 := Lib.hid h2
          clear hi h1 h2
          go_wp2_with (first | (go_at_call 76; refine (isLayer_impl _ _ _ _ _ hmx.out).mono ?_; rintro e w' ⟨rfl, rfl⟩; rw [HI.out]) | (go_at_call 59; refine (isKey_impl _ _).mono ?_; rintro e w' ⟨rfl, rfl⟩; rw [HI2.out]) | (go_at_call 75; refine (listOf_impl 100 g cg L _ _ _ HO.out HL.out HWF.out hcg).mono ?_; rintro e w2 ⟨v, rfl, hv, hb2⟩))
          go_ret2
          rw [HF.out]
          exact ⟨_, rfl, hv.mono hb.size (Nat.le_refl _), hb.trans (hb2.mono hb.size)⟩
        | true =>
          have h3 : inB val 0 1000000 = false := by rw [h1, h2] at hi; simpa using hi
          have HI2 := Lib.hid h2
          have HI3 := Lib.hid h3
          clear hi h1 h2 h3
          go_wp2_with (first | (go_at_call 76; refine (isLayer_impl _ _ _ _ _ hmx.out).mono ?_; rintro e w' ⟨rfl, rfl⟩; rw [HI.out]) | (go_at_call 59; refine (isKey_impl _ _).mono ?_; rintro e w' ⟨rfl, rfl⟩; rw [HI2.out]) | (go_at_call 60; refine (isValue_impl _ _).mono ?_; rintro e w' ⟨rfl, rfl⟩; rw [HI3.out]) | (go_at_call 75; refine (listOf_impl 100 g cg L _ _ _ HO.out HL.out HWF.out hcg).mono ?_; rintro e w2 ⟨v, rfl, hv, hb2⟩))
          go_ret2
          rw [HF.out]
          exact ⟨_, rfl, hv.mono hb.size (Nat.le_refl _), hb.trans (hb2.mono hb.size)⟩
    | true =>
      have HF : Hid (layerWriteM L n key val = (writeL L n key val, true)) := Lib.hid (by simp only [layerWriteM, HL.out, HN.out, hi]; rfl)
      simp only [Bool.and_eq_true] at hi
      obtain ⟨⟨h1, h2⟩, h3⟩ := hi
      have b1 := inB_true h1
      have b2 := inB_true h2
      have b3 := inB_true h3
      have HI := Lib.hid h1
      have HI2 := Lib.hid h2
      have HI3 := Lib.hid h3
      clear h1 h2 h3
      have HLW := Lib.hid (layersB_write HL.out b1.1 (by rw [HN.out]; omega) b2.1 b2.2 b3.1 b3.2)
      have HWF2 := Lib.hid (writeL_wf n key val HWF.out)
      obtain ⟨j, rfl⟩ : ∃ j : Nat, n = (j : Int) := ⟨n.toNat, by omega⟩
      have hjL : j < L.length := by rw [HN.out]; omega
      obtain ⟨mb, hcm, hmf, hBm, hwr⟩ := HO.out.write j hjL (lay_wr HL.out j hjL).1
      have HWR := Lib.hid (hwr key val)
      have HMF := Lib.hid hmf
      have hlenW := writeL_len L j key val
      have hkw : (Lit.int .i64 key).wf = true := WalkArith.wf_i64 (by omega)
      have hvw : (Lit.int .i64 val).wf = true := WalkArith.wf_i64 (by omega)
      have HKW := Lib.hid hkw
      have HVW := Lib.hid hvw
      have HLE := Lib.hid hlenW
      clear hwr hmf hkw hvw hlenW
      go_wp2_with (first | (go_at_call 76; refine (isLayer_impl _ _ _ _ _ hmx.out).mono ?_; rintro e w' ⟨rfl, rfl⟩; rw [HI.out]) | (go_at_call 59; refine (isKey_impl _ _).mono ?_; rintro e w' ⟨rfl, rfl⟩; rw [HI2.out]) | (go_at_call 60; refine (isValue_impl _ _).mono ?_; rintro e w' ⟨rfl, rfl⟩; rw [HI3.out]) | (at_mapUpdate; refine wpList_mapUpdate_F _ rfl _ _ _ rfl mb 100 _ key val (by rfl) (by rfl) (by rfl) HMF.out (by omega) HKW.out HVW.out ?_; intro w3 hm3 hg3; have HO3 := Lib.hid (HWR.out w3 hm3 hg3); have hb3 := hb.grown hg3 hb.size (fun k hk => by simp at hk; have := hb.size; omega)) | (go_at_call 75; refine ((by have := listOf_impl 101 g cg (writeL L j key val) _ _ _ (by rw [HLE.out]; exact HO3.out) HLW.out HWF2.out (by rw [HLE.out]; exact hcg); rw [HLE.out] at this; exact this) : Calls _ _ _ _ _).mono ?_; rintro e w2 ⟨v, rfl, hv, hb2⟩))
      go_ret2
      rw [HF.out]
      exact ⟨_, rfl, hv.mono hb3.size (Nat.le_refl _), hb3.trans (hb2.mono hb3.size)⟩
end Go.Proofs.Ytakbkomgmajnfaa

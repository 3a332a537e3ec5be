/- Texts of ours that stand together: SpecLay, SpecLay2, SpecLay3, SpecLay4, SpecLay5 -/
import Derived.Test.YtcaombogffmopaaSpecS
import Derived.Test.YtcaombogffmopaaLay
import Derived.Deep.RegionLaw
/- The contracts of the model's l4Writes, LayersValid, l4Find, l4Read, LayerRead, LayerStore. -/
namespace Go.Proofs.Ytcaombogffmopaa
open Go.RowKit
set_option linter.unusedVariables false
set_option maxHeartbeats 1000000 in
theorem l4Writes_spec (a : Option Addr) (n cap : Nat) (l : List Ent) (w : World) (h : RowE w a n l) :
    Calls Try.prog 50 #[.slice a n cap] w (BoolQ (writesB l) w) := by
  obtain ⟨hl, hm, hc, -⟩ := h
  unfold maxLen at hm
  have HL := Lib.hid hl; clear hl
  by_cases h0 : 0 < n
  · obtain ⟨b, off, rfl, hcc⟩ := hc h0; clear hc; have hc := hcc; clear hcc
    go_enter Try.func50, Try.ntmps50
    go_wp2
    go_loopw [3] (fun i wr => ∃ k : Nat, k ≤ n ∧ i = .int .i64 k ∧ WrTo l k ∧ Drawn w wr) (fun i _ => n - (intOf i).toNat)
    case atStart => exact ⟨0, Nat.zero_le _, rfl, fun j hj => absurd hj (Nat.not_lt_zero j), Drawn.refl _⟩
    case round =>
      obtain ⟨k, hk, rfl, hok, hd⟩ := hrel
      have HOK := Lib.hid hok; clear hok
      by_cases hlt : k < n
      · have hc1 := (hd.cell _).trans (hc k hlt).1
        have hc2 := (hd.cell _).trans (hc k hlt).2
        have hcp : 0 < k → wr.cell? ⟨b, off + (k - 1) * 2, none⟩ = some (.int .i64 (l.getD (k - 1) (0, 0)).1) := fun _ => (hd.cell _).trans (hc (k - 1) (by omega)).1
        have HE : Hid (wrAt l k = (inB (l.getD k (0, 0)).1 0 31 && inB (l.getD k (0, 0)).2 0 1000000 && (k == 0 || decide ((l.getD (k - 1) (0, 0)).1 < (l.getD k (0, 0)).1)))) := Lib.hid rfl
        have HB := Lib.hid (writesB_bad l k (by rw [HL.out]; exact hlt))
        clear hc
        obtain ⟨x, hx⟩ : ∃ x, x = (l.getD k (0, 0)).1 := ⟨_, rfl⟩
        obtain ⟨y, hy⟩ : ∃ y, y = (l.getD k (0, 0)).2 := ⟨_, rfl⟩
        obtain ⟨z, hz⟩ : ∃ z, z = (l.getD (k - 1) (0, 0)).1 := ⟨_, rfl⟩
        rw [← hx] at hc1
        rw [← hy] at hc2
        rw [← hx, ← hy] at HE
        rw [← hz] at hcp HE
        clear hx hy hz
        cases e1 : inB x 0 31 with
        | false =>
          have HF := Lib.hid (HB.out (by rw [HE.out, e1]; rfl))
          clear HE HB hcp hc2
          go_wp2
          go_quiet ((go_at_call 49; exact Calls.quiet_of_same (l1In_spec _ _ _ _)))
          go_wp2
          go_ret
          exact ⟨by rw [HF.out]; rfl, hd.drewN _⟩
        | true =>
          cases e2 : inB y 0 1000000 with
          | false =>
            have HF := Lib.hid (HB.out (by rw [HE.out, e1, e2]; rfl))
            clear HE HB hcp
            go_wp2
            go_quiet ((go_at_call 49; exact Calls.quiet_of_same (l1In_spec _ _ _ _)))
            go_wp2
            go_ret
            exact ⟨by rw [HF.out]; rfl, hd.drewN _⟩
          | true =>
            by_cases hk0 : 0 < k
            · have hcp := hcp hk0
              have hk1 : (k == 0) = false := by simp; omega
              have ek : IntKind.i64.wrap ((k : Int) - 1) = ((k - 1 : Nat) : Int) := by rw [IntWalk.i64_in _ (by omega)]; omega
              have hkz : decide ((0 : Int) < (k : Int)) = true := by simp; omega
              by_cases hle : x ≤ z
              · have hle' : decide (x ≤ z) = true := by simpa using hle
                have HF := Lib.hid (HB.out (by rw [HE.out, e1, e2, hk1]; simp; omega))
                clear HE HB hk1 hle
                go_wp2
                go_quiet ((go_at_call 49; exact Calls.quiet_of_same (l1In_spec _ _ _ _)))
                go_wp2
                go_ret
                exact ⟨by rw [HF.out]; rfl, hd.drewN _⟩
              · have hle' : decide (x ≤ z) = false := by simpa using hle
                have HF := Lib.hid (HOK.out.next (by rw [HE.out, e1, e2, hk1]; simp; omega))
                clear HE HB hk1 hle
                go_wp2
                go_quiet ((go_at_call 49; exact Calls.quiet_of_same (l1In_spec _ _ _ _)))
                go_wp2
                go_roundw
                case rel => exact ⟨k + 1, by omega, by go_num, HF.out, hd.drewN _⟩
                case measure => simp [intOf]; omega
            · obtain rfl : k = 0 := by omega
              have HF := Lib.hid (HOK.out.next (by rw [HE.out, e1, e2]; rfl))
              clear HE HB hcp
              simp only [Nat.zero_mul, Nat.add_zero] at hc1 hc2
              go_wp2
              go_quiet ((go_at_call 49; exact Calls.quiet_of_same (l1In_spec _ _ _ _)))
              go_wp2
              go_roundw
              case rel => exact ⟨1, by omega, by go_num, HF.out, hd.drewN _⟩
              case measure => simp [intOf]; omega
      · have hs : writesB l = true := (writesB_iff l).2 (fun j hj => HOK.out j (by rw [HL.out] at hj; omega))
        have HF := Lib.hid hs
        clear hc hs
        go_wp2
        go_ret
        exact ⟨by rw [HF.out]; rfl, hd⟩
  · obtain rfl : n = 0 := by omega
    obtain rfl : l = [] := List.eq_nil_of_length_eq_zero HL.out
    clear hc
    go_enter Try.func50, Try.ntmps50
    go_wp2
    go_loop [3] (fun i => i = .int .i64 0) (fun _ => 0)
    case atStart => rfl
    case round =>
      subst hrel
      go_wp2
      go_ret
      exact ⟨rfl, Drawn.refl _⟩
theorem layAt_spec (L : List Lay) (k : Nat) : layAt L k = (inB (L.getD k (0, [])).1 (-1) ((k : Int) - 1) && writesB (L.getD k (0, [])).2) := rfl
set_option maxHeartbeats 1000000 in
theorem layersValid_spec (a : Option Addr) (n cap : Nat) (L : List Lay) (w : World) (h : RowL w a n L) :
    Calls Try.prog 15 #[.slice a n cap] w (BoolQ (layersB L) w) := by
  have HR := Lib.hid h
  obtain ⟨hl, hm, hc, -⟩ := h
  unfold maxLen at hm
  have HL := Lib.hid hl; clear hl
  by_cases h0 : 0 < n
  · obtain ⟨b, off, rfl, hcc⟩ := hc h0; clear hc; have hc := hcc; clear hcc
    go_enter Try.func15, Try.ntmps15
    go_wp2
    go_loopw [3] (fun i wr => ∃ k : Nat, k ≤ n ∧ i = .int .i64 k ∧ LayTo L k ∧ Drawn w wr) (fun i _ => n - (intOf i).toNat)
    case atStart => exact ⟨0, Nat.zero_le _, rfl, LayTo.zero L, Drawn.refl _⟩
    case round =>
      obtain ⟨k, hk, rfl, hok, hd⟩ := hrel
      have HOK := Lib.hid hok; clear hok
      by_cases hlt : k < n
      · obtain ⟨c1, x, c2, hs⟩ := hc k hlt
        have hc1 := (hd.cell _).trans c1
        have hc2 := (hd.cell _).trans c2
        have HE := Lib.hid (layAt_spec L k)
        have HB := Lib.hid (layersB_bad L k (by rw [HL.out]; exact hlt))
        obtain ⟨a', n', cap', rfl, hre, hcz, hcl⟩ := hs
        have hre2 := hre.below (hd.below w.heap.size)
        clear hc c1 c2 hre
        obtain ⟨y, hy⟩ : ∃ y, y = (L.getD k (0, [])).1 := ⟨_, rfl⟩
        obtain ⟨l, hll⟩ : ∃ l, l = (L.getD k (0, [])).2 := ⟨_, rfl⟩
        rw [← hy] at hc1 HE
        rw [← hll] at HE hre2
        clear hy hll
        cases e1 : inB y (-1) ((k : Int) - 1) with
        | false =>
          have HF := Lib.hid (HB.out (by rw [HE.out, e1]; rfl))
          have HG := Lib.hid e1
          clear HE HB e1
          go_wp2_with (first | (go_at_call 49; refine (l1In_spec _ _ _ _).mono ?_; rintro e w' ⟨rfl, rfl⟩; rw [HG.out]))
          go_ret
          exact ⟨by rw [HF.out]; rfl, hd⟩
        | true =>
          have HG := Lib.hid e1
          clear e1
          go_wp2_with (first | (go_at_call 49; refine (l1In_spec _ _ _ _).mono ?_; rintro e w' ⟨rfl, rfl⟩; rw [HG.out]))
          refine (l4Writes_spec a' n' cap' l _ hre2).mono ?_; rintro e w3 ⟨rfl, hd3⟩
          have hd4 := hd.trans hd3
          clear hd3 hd hc1 hc2 hre2
          cases e2 : writesB l with
          | false =>
            have HF := Lib.hid (HB.out (by rw [HE.out, e2]; simp))
            clear HE HB
            go_wp2
            go_ret
            exact ⟨by rw [HF.out]; rfl, hd4⟩
          | true =>
            have HF := Lib.hid (HOK.out.next (by rw [HE.out, HG.out, e2]; rfl))
            clear HE HB
            go_wp2
            go_roundw
            case rel => exact ⟨k + 1, by omega, by go_num, HF.out, hd4⟩
            case measure => simp [intOf]; omega
      · by_cases h20 : n ≤ 20
        · have hs : layersB L = true := layersB_yes L (fun j hj => HOK.out j (by rw [HL.out] at hj; omega)) (by rw [HL.out]; exact h20)
          have HF := Lib.hid hs
          have hb20 : decide ((n : Int) ≤ 20) = true := by simp; omega
          clear hc hs
          go_wp2
          go_ret
          exact ⟨by rw [HF.out]; rfl, hd⟩
        · have HF := Lib.hid (layersB_long L (by rw [HL.out]; omega))
          have hb20 : decide ((n : Int) ≤ 20) = false := by simp; omega
          clear hc
          go_wp2
          go_ret
          exact ⟨by rw [HF.out]; rfl, hd⟩
  · obtain rfl : n = 0 := by omega
    obtain rfl : L = [] := List.eq_nil_of_length_eq_zero HL.out
    clear hc
    go_enter Try.func15, Try.ntmps15
    go_wp2
    go_loop [3] (fun i => i = .int .i64 0) (fun _ => 0)
    case atStart => rfl
    case round =>
      subst hrel
      go_wp2
      go_ret
      exact ⟨rfl, Drawn.refl _⟩
/-- A number and a bool, and nothing has turned. -/
def FindQ (x : Option Int) (w : World) (e : Ending) (w' : World) : Prop := e = .returned (.tuple #[.int .i64 (x.getD 0), .bool x.isSome]) ∧ w = w'
set_option maxHeartbeats 1000000 in
theorem l4Find_spec (a : Option Addr) (n cap : Nat) (l : List Ent) (key : Int) (w : World) (h : RowE w a n l) :
    Calls Try.prog 79 #[.slice a n cap, .int .i64 key] w (FindQ (findM l key) w) := by
  obtain ⟨hl, hm, hc, -⟩ := h
  unfold maxLen at hm
  have HL := Lib.hid hl; clear hl
  by_cases h0 : 0 < n
  · obtain ⟨b, off, rfl, hcc⟩ := hc h0; clear hc; have hc := hcc; clear hcc
    go_enter Try.func79, Try.ntmps79
    go_wp2
    go_loop [6] (fun i => ∃ k : Nat, k ≤ n ∧ i = .int .i64 k ∧ Absent l key k) (fun i => n - (intOf i).toNat)
    case atStart => exact ⟨0, Nat.zero_le _, rfl, Absent.zero _ _⟩
    case round =>
      obtain ⟨k, hk, rfl, hab⟩ := hrel
      have HA := Lib.hid hab; clear hab
      by_cases hlt : k < n
      · obtain ⟨hc1, hc2⟩ := hc k hlt
        have HH := Lib.hid (findM_hit l key k (by rw [HL.out]; exact hlt) HA.out)
        have HN := Lib.hid (fun h => Absent.next HA.out h)
        clear hc
        obtain ⟨x, hx⟩ : ∃ x, x = (l.getD k (0, 0)).1 := ⟨_, rfl⟩
        obtain ⟨y, hy⟩ : ∃ y, y = (l.getD k (0, 0)).2 := ⟨_, rfl⟩
        rw [← hx] at hc1 HH HN
        rw [← hy] at hc2 HH
        clear hx hy
        by_cases he : x = key
        · have HH2 := Lib.hid (HH.out he)
          subst he
          go_wp2
          go_ret2
          exact ⟨by rw [HH2.out]; rfl, rfl⟩
        · have HN2 := Lib.hid (HN.out he)
          have hb : (x == key) = false := by simpa using he
          clear he
          go_wp2
          go_round
          case rel => exact ⟨k + 1, by omega, by go_num, HN2.out⟩
          case measure => simp [intOf]; omega
      · have HM := Lib.hid (findM_miss l key (by rw [HL.out, show n = k by omega]; exact HA.out))
        clear hc
        go_wp2
        go_ret2
        exact ⟨by rw [HM.out]; rfl, rfl⟩
  · obtain rfl : n = 0 := by omega
    obtain rfl : l = [] := List.eq_nil_of_length_eq_zero HL.out
    clear hc
    go_enter Try.func79, Try.ntmps79
    go_wp2
    go_loop [6] (fun i => i = .int .i64 0) (fun _ => 0)
    case atStart => rfl
    case round =>
      subst hrel
      go_wp2
      go_ret2
      exact ⟨rfl, rfl⟩
/-- What is seen in the layer n is seen in the layer k. -/
def SeenSp (L : List Lay) (n key k : Int) : Prop := seen L n key = seen L k key
set_option maxHeartbeats 1000000 in
theorem l4Read_spec (a b : Option Addr) (n m cap cap' : Nat) (S : List Ent) (L : List Lay) (k key : Int) (w : World) (h : RowE w a n S) (h' : RowL w b m L) (hL : layersB L = true) (h0 : -1 ≤ k) (h1 : k < m) :
    Calls Try.prog 57 #[.slice a n cap, .slice b m cap', .int .i64 k, .int .i64 key] w fun e w' => e = .returned (.int .i64 (readM S L k key)) ∧ w = w' := by
  have HL := Lib.hid hL; clear hL
  have HR := Lib.hid h; clear h
  have HN := Lib.hid h'.1
  have hm := h'.2.1
  unfold maxLen at hm
  have hc := h'.2.2.1
  have HP : SeenSp L k key k := rfl
  go_enter Try.func57, Try.ntmps57
  go_wp2
  go_loop [2] (fun i => ∃ q : Int, -1 ≤ q ∧ q < m ∧ i = .int .i64 q ∧ SeenSp L k key q) (fun i => (intOf i + 1).toNat)
  case atStart => exact ⟨k, h0, h1, rfl, HP⟩
  case round =>
    obtain ⟨q, hq0, hq1, rfl, HS⟩ := hrel
    clear HP h0 h1
    by_cases hqm : q = -1
    · subst hqm
      have HV : Hid (readM S L k key = atM S key) := Lib.hid (by rw [readM, HS, seen_neg L _ key (by omega)]; rfl)
      go_wp2_with (first | (go_at_call 80; refine (l2At_spec a n cap S key _ HR.out).mono ?_; rintro e w' ⟨rfl, rfl⟩))
      go_ret
      exact ⟨ret_int HV.out.symm, rfl⟩
    · obtain ⟨j, rfl⟩ : ∃ j : Nat, q = (j : Int) := ⟨q.toNat, by omega⟩
      have hj : j < m := by omega
      obtain ⟨bb, off, rfl, hcc⟩ := hc (by omega)
      obtain ⟨c1, x, c2, hs⟩ := hcc j hj
      obtain ⟨a', n', cap'', rfl, hre, hcz, hcl⟩ := hs
      have hbd := lay_bd HL.out j (by rw [HN.out]; exact hj)
      have HRE := Lib.hid hre
      clear hcc hc hqm hre
      cases hf : findM (L.getD j (0, [])).2 key with
      | some v =>
        have HV : Hid (readM S L k key = v) := Lib.hid (by rw [readM, HS, seen_hit (n := (j : Int)) (by omega) (by rw [Int.toNat_natCast]; exact hf)]; rfl)
        have HF := Lib.hid hf
        clear hf
        go_wp2_with (first | (go_at_call 79; refine (l4Find_spec a' n' cap'' _ key _ HRE.out).mono ?_; rintro e w' ⟨rfl, rfl⟩; rw [HF.out]))
        go_ret
        exact ⟨ret_int HV.out.symm, rfl⟩
      | none =>
        have HV : Hid (SeenSp L k key (L.getD j (0, [])).1) := Lib.hid (by rw [SeenSp, HS, seen_miss HL.out (by omega) (by rw [HN.out]; omega) (by rw [Int.toNat_natCast]; exact hf), Int.toNat_natCast])
        have HF := Lib.hid hf
        clear hf
        obtain ⟨y, hy⟩ : ∃ y, y = (L.getD j (0, [])).1 := ⟨_, rfl⟩
        rw [← hy] at c1 hbd HV
        clear hy
        go_wp2_with (first | (go_at_call 79; refine (l4Find_spec a' n' cap'' _ key _ HRE.out).mono ?_; rintro e w' ⟨rfl, rfl⟩; rw [HF.out]))
        go_round
        case rel => exact ⟨y, by omega, by omega, rfl, HV.out⟩
        case measure => simp [intOf]; omega
end Go.Proofs.Ytcaombogffmopaa
/- The contracts of the model's LayerRead, LayerStore, l4Put, l4Copy, ForkLayer, LayerWrite. -/
namespace Go.Proofs.Ytcaombogffmopaa
open Go.RowKit
set_option linter.unusedVariables false
set_option maxHeartbeats 2000000 in
theorem l4Put_raw (a : Option Addr) (n cap : Nat) (l : List Ent) (key val : Int) (w : World) (h : RowE w a n l) (hn : n ≤ 1000) (hk : (Lit.int .i64 key).wf = true) (hv : (Lit.int .i64 val).wf = true) :
    Calls Try.prog 67 #[.slice a n cap, .int .i64 key, .int .i64 val] w (NewE w 42 (pwRaw key val l)) := by
  have hbd := fun k hk => h.bd k hk
  have HW := Lib.hid h.2.2.2
  obtain ⟨hl, hm, hc, -⟩ := h
  unfold maxLen at hm
  have HL := Lib.hid hl; clear hl
  have HK := Lib.hid hk; clear hk
  have HV := Lib.hid hv; clear hv
  have hnil : Own (w.alloc (.cells #[] 42)) w.heap.size 42 2 (.slice (some ⟨w.heap.size, 0, none⟩) 0 0) 0 [] := own_lit 42 2 #[] 0 (Nat.le_refl _) (by simp) rfl
  have hb0 := (Below.refl w.heap.size w).alloc (Nat.le_refl _) (.cells #[] 42)
  by_cases h0 : 0 < n
  · obtain ⟨b, off, rfl, hcc⟩ := hc h0; clear hc; have hc := hcc; clear hcc
    have hbB : b < w.heap.size := World.block_lt_of_cell? w ⟨b, off + 0 * 2, none⟩ (hc 0 h0).1
    go_enter Try.func67, Try.ntmps67
    go_wp2
    go_loopw [7, 8, 9] (fun v p i wr => ∃ k : Nat, k ≤ n ∧ i = .int .i64 k ∧ p = .bool (pwFold key val (l.take k)).2 ∧ Own wr w.heap.size 42 2 v (pwFold key val (l.take k)).1.length (flatE (pwFold key val (l.take k)).1) ∧ WfE (pwFold key val (l.take k)).1 ∧ Below w.heap.size w wr) (fun _ _ i _ => n - (intOf i).toNat)
    case atStart => exact ⟨0, Nat.zero_le _, rfl, rfl, hnil, fun e he => by simp [pwFold] at he, hb0⟩
    case round =>
      obtain ⟨k, hk, rfl, rfl, hown, hwf, hb⟩ := hrel
      clear hnil hb0
      have hlen := pwFold_len key val (l.take k)
      have htl : (l.take k).length ≤ k := List.length_take_le _ _
      obtain ⟨st, hst⟩ : ∃ st, st = pwFold key val (l.take k) := ⟨_, rfl⟩
      rw [← hst] at hown hwf hlen ⊢
      by_cases hlt : k < n
      · have hc1 := (hb.cell (p := ⟨b, off + k * 2, none⟩) hbB).trans (hc k hlt).1
        have hc2 := (hb.cell (p := ⟨b, off + k * 2 + 1, none⟩) hbB).trans (hc k hlt).2
        have hwe := HW.out _ (getD_memE l k (by rw [HL.out]; exact hlt))
        have HT : Hid (pwFold key val (l.take (k + 1)) = putStep key val st (l.getD k (0, 0))) := by
          rw [hst, takeE_snoc l k (by rw [HL.out]; exact hlt), pwFold_snoc]; exact Lib.hid rfl
        clear hc hbd hst
        obtain ⟨x, hx⟩ : ∃ x, x = (l.getD k (0, 0)).1 := ⟨_, rfl⟩
        obtain ⟨y, hy⟩ : ∃ y, y = (l.getD k (0, 0)).2 := ⟨_, rfl⟩
        have HXY : Hid (l.getD k (0, 0) = (x, y)) := by rw [hx, hy]; exact Lib.hid rfl
        rw [← hx] at hc1 hwe
        rw [← hy] at hc2 hwe
        clear hx hy
        obtain ⟨out, pl⟩ := st
        have HWE := Lib.hid hwe; clear hwe
        have HWF := Lib.hid hwf; clear hwf
        simp only at hown hlen HWF ⊢
        have hlen2 : out.length ≤ 2 * k := by omega
        clear hlen htl
        cases pl with
        | true =>
          by_cases he : x = key
          · have HS : Hid (pwFold key val (l.take (k + 1)) = (out, true)) := by rw [HT.out, HXY.out]; exact Lib.hid (by simp [putStep, he])
            have hne : (x != key) = false := by simpa using he
            clear he HT HXY
            go_wp2
            go_roundw
            case rel => exact ⟨k + 1, by omega, by go_num, by rw [HS.out], by rw [HS.out]; exact hown, by rw [HS.out]; exact HWF.out, hb⟩
            case measure => simp [intOf]; omega
          · have HS : Hid (pwFold key val (l.take (k + 1)) = (out ++ [(x, y)], true)) := by rw [HT.out, HXY.out]; exact Lib.hid (by simp [putStep, he])
            have hne : (x != key) = true := by simpa using he
            clear he HT HXY
            go_wp2_with (at_builtin; refine wpList_append_one rfl _ _ 26 rfl w.heap.size 42 _ (.agg #[.int .i64 0, .int .i64 0]) 2 16 Try.underlying26 infoEnt rfl (by decide) _ _ _ [.int .i64 x, .int .i64 y] (by rfl) hown (by rfl) rfl ?c11 ?c21 (by decide) ?c31 ?_)
            case c11 => intro u hu; simp at hu; rcases hu with rfl | rfl <;> rfl
            case c21 => omega
            case c31 => exact hb.size
            intro v1 w1 ho1' hg1
            have ho1 : Own w1 w.heap.size 42 2 v1 (out ++ [(x, y)]).length (flatE (out ++ [(x, y)])) := by rw [flatE_append, List.length_append]; exact ho1'
            have hb1 : Below w.heap.size w w1 := (hb.alloc hb.size _).grown hg1 (by have := hb.size; simp; omega) (fun k hk => (hown.1.lt k hk).1)
            clear hg1 ho1'
            go_wp2
            go_roundw
            case rel => exact ⟨k + 1, by omega, by go_num, by rw [HS.out], by rw [HS.out]; exact ho1, by rw [HS.out]; exact HWF.out.snoc HWE.out.1 HWE.out.2, hb1⟩
            case measure => simp [intOf]; omega
        | false =>
          by_cases hle : key ≤ x
          · have hle' : decide (key ≤ x) = true := by simpa using hle
            by_cases he : x = key
            · have HS : Hid (pwFold key val (l.take (k + 1)) = (out ++ [(key, val)], true)) := by rw [HT.out, HXY.out]; exact Lib.hid (by simp [putStep, he])
              have hne : (x != key) = false := by simpa using he
              clear he HT HXY hle
              go_wp2_with (at_builtin; refine wpList_append_one rfl _ _ 26 rfl w.heap.size 42 _ (.agg #[.int .i64 0, .int .i64 0]) 2 16 Try.underlying26 infoEnt rfl (by decide) _ _ _ [.int .i64 key, .int .i64 val] (by rfl) hown (by rfl) rfl ?c11 ?c21 (by decide) ?c31 ?_)
              case c11 => intro u hu; simp at hu; rcases hu with rfl | rfl <;> rfl
              case c21 => omega
              case c31 => exact hb.size
              intro v1 w1 ho1' hg1
              have ho1 : Own w1 w.heap.size 42 2 v1 (out ++ [(key, val)]).length (flatE (out ++ [(key, val)])) := by rw [flatE_append, List.length_append]; exact ho1'
              have hb1 : Below w.heap.size w w1 := (hb.alloc hb.size _).grown hg1 (by have := hb.size; simp; omega) (fun k hk => (hown.1.lt k hk).1)
              clear hg1 ho1'
              have hc1' := (bcell hb1).1 b (off + k * 2) hbB
              have hc1b := (hb.cell (p := ⟨b, off + k * 2, none⟩) hbB).symm.trans hc1
              rw [hc1b] at hc1'
              clear hc1b hc1 hc2
              go_wp2
              go_roundw
              case rel => exact ⟨k + 1, by omega, by go_num, by rw [HS.out], by rw [HS.out]; exact ho1, by rw [HS.out]; exact HWF.out.snoc HK.out HV.out, hb1⟩
              case measure => simp [intOf]; omega
            · have HS : Hid (pwFold key val (l.take (k + 1)) = (out ++ [(key, val)] ++ [(x, y)], true)) := by rw [HT.out, HXY.out]; exact Lib.hid (by simp [putStep, he, hle])
              have hne : (x != key) = true := by simpa using he
              clear he HT HXY hle
              go_wp2_with (at_builtin; refine wpList_append_one rfl _ _ 26 rfl w.heap.size 42 _ (.agg #[.int .i64 0, .int .i64 0]) 2 16 Try.underlying26 infoEnt rfl (by decide) _ _ _ [.int .i64 key, .int .i64 val] (by rfl) hown (by rfl) rfl ?c11 ?c21 (by decide) ?c31 ?_)
              case c11 => intro u hu; simp at hu; rcases hu with rfl | rfl <;> rfl
              case c21 => omega
              case c31 => exact hb.size
              intro v1 w1 ho1' hg1
              have ho1 : Own w1 w.heap.size 42 2 v1 (out ++ [(key, val)]).length (flatE (out ++ [(key, val)])) := by rw [flatE_append, List.length_append]; exact ho1'
              have hb1 : Below w.heap.size w w1 := (hb.alloc hb.size _).grown hg1 (by have := hb.size; simp; omega) (fun k hk => (hown.1.lt k hk).1)
              clear hg1 ho1'
              have hc1' := (bcell hb1).1 b (off + k * 2) hbB
              have hc2' := (bcell hb1).1 b (off + k * 2 + 1) hbB
              rw [(hb.cell (p := ⟨b, off + k * 2, none⟩) hbB).symm.trans hc1] at hc1'
              rw [(hb.cell (p := ⟨b, off + k * 2 + 1, none⟩) hbB).symm.trans hc2] at hc2'
              have hl1 : (out ++ [(key, val)]).length = out.length + 1 := by simp
              clear hc1 hc2
              go_wp2_with (at_builtin; refine wpList_append_one rfl _ _ 26 rfl w.heap.size 42 _ (.agg #[.int .i64 0, .int .i64 0]) 2 16 Try.underlying26 infoEnt rfl (by decide) _ _ _ [.int .i64 x, .int .i64 y] (by rfl) ho1 (by rfl) rfl ?c12 ?c22 (by decide) ?c32 ?_)
              case c12 => intro u hu; simp at hu; rcases hu with rfl | rfl <;> rfl
              case c22 => omega
              case c32 => exact hb1.size
              intro v2 w2 ho2' hg2
              have ho2 : Own w2 w.heap.size 42 2 v2 ((out ++ [(key, val)]) ++ [(x, y)]).length (flatE ((out ++ [(key, val)]) ++ [(x, y)])) := by rw [flatE_append, List.length_append, hl1]; exact ho2'
              have hb2 : Below w.heap.size w w2 := (hb1.alloc hb1.size _).grown hg2 (by have := hb1.size; simp; omega) (fun k hk => (ho1.1.lt k hk).1)
              clear hg2 ho2'
              go_wp2
              go_roundw
              case rel => exact ⟨k + 1, by omega, by go_num, by rw [HS.out], by rw [HS.out]; exact ho2, by rw [HS.out]; exact (HWF.out.snoc HK.out HV.out).snoc HWE.out.1 HWE.out.2, hb2⟩
              case measure => simp [intOf]; omega
          · have hle' : decide (key ≤ x) = false := by simpa using hle
            have HS : Hid (pwFold key val (l.take (k + 1)) = (out ++ [(x, y)], false)) := by rw [HT.out, HXY.out]; exact Lib.hid (by simp [putStep, hle]; omega)
            have hne : (x != key) = true := by simp; omega
            clear HT HXY hle
            go_wp2_with (at_builtin; refine wpList_append_one rfl _ _ 26 rfl w.heap.size 42 _ (.agg #[.int .i64 0, .int .i64 0]) 2 16 Try.underlying26 infoEnt rfl (by decide) _ _ _ [.int .i64 x, .int .i64 y] (by rfl) hown (by rfl) rfl ?c11 ?c21 (by decide) ?c31 ?_)
            case c11 => intro u hu; simp at hu; rcases hu with rfl | rfl <;> rfl
            case c21 => omega
            case c31 => exact hb.size
            intro v1 w1 ho1' hg1
            have ho1 : Own w1 w.heap.size 42 2 v1 (out ++ [(x, y)]).length (flatE (out ++ [(x, y)])) := by rw [flatE_append, List.length_append]; exact ho1'
            have hb1 : Below w.heap.size w w1 := (hb.alloc hb.size _).grown hg1 (by have := hb.size; simp; omega) (fun k hk => (hown.1.lt k hk).1)
            clear hg1 ho1'
            go_wp2
            go_roundw
            case rel => exact ⟨k + 1, by omega, by go_num, by rw [HS.out], by rw [HS.out]; exact ho1, by rw [HS.out]; exact HWF.out.snoc HWE.out.1 HWE.out.2, hb1⟩
            case measure => simp [intOf]; omega
      · have HKT : Hid (l.take k = l) := Lib.hid (List.take_of_length_le (by rw [HL.out]; omega))
        clear hc hbd
        obtain ⟨pb, hpb⟩ : ∃ pb, pb = st.2 := ⟨_, rfl⟩
        rw [← hpb]
        cases hp : st.2 with
        | true =>
          have HP : Hid (pwRaw key val l = st.1) := by unfold pwRaw; rw [← HKT.out, ← hst, hp]; exact Lib.hid rfl
          rw [hp] at hpb
          clear hp hst
          obtain ⟨out, pl⟩ := st
          simp only at hown hwf hlen HP hpb ⊢
          subst hpb
          go_wp2
          go_ret
          exact ⟨_, rfl, by rw [HP.out]; exact hown, by rw [HP.out]; exact hwf, hb⟩
        | false =>
          have HP : Hid (pwRaw key val l = st.1 ++ [(key, val)]) := by unfold pwRaw; rw [← HKT.out, ← hst, hp]; exact Lib.hid rfl
          rw [hp] at hpb
          clear hp hst
          obtain ⟨out, pl⟩ := st
          simp only at hown hwf hlen HP hpb ⊢
          subst hpb
          go_wp2_with (at_builtin; refine wpList_append_one rfl _ _ 26 rfl w.heap.size 42 _ (.agg #[.int .i64 0, .int .i64 0]) 2 16 Try.underlying26 infoEnt rfl (by decide) _ _ _ [.int .i64 key, .int .i64 val] (by rfl) hown (by rfl) rfl ?c11 ?c21 (by decide) ?c31 ?_)
          case c11 => intro u hu; simp at hu; rcases hu with rfl | rfl <;> rfl
          case c21 => omega
          case c31 => exact hb.size
          intro v1 w1 ho1' hg1
          have hb1 : Below w.heap.size w w1 := (hb.alloc hb.size _).grown hg1 (by have := hb.size; simp; omega) (fun k hk => (hown.1.lt k hk).1)
          clear hg1
          go_wp2
          go_ret
          exact ⟨_, rfl, by rw [HP.out, flatE_append, List.length_append]; exact ho1', by rw [HP.out]; exact hwf.snoc HK.out HV.out, hb1⟩
  · obtain rfl : n = 0 := by omega
    obtain rfl : l = [] := List.eq_nil_of_length_eq_zero HL.out
    clear hc hbd
    have HP : Hid (pwRaw key val [] = [(key, val)]) := Lib.hid rfl
    go_enter Try.func67, Try.ntmps67
    go_wp2
    go_loopw [7, 8, 9] (fun v p i wr => p = .bool false ∧ i = .int .i64 0 ∧ Own wr w.heap.size 42 2 v 0 [] ∧ Below w.heap.size w wr) (fun _ _ _ _ => 0)
    case atStart => exact ⟨rfl, rfl, hnil, hb0⟩
    case round =>
      obtain ⟨rfl, rfl, hown, hb⟩ := hrel
      clear hnil hb0
      go_wp2_with (at_builtin; refine wpList_append_one rfl _ _ 26 rfl w.heap.size 42 _ (.agg #[.int .i64 0, .int .i64 0]) 2 16 Try.underlying26 infoEnt rfl (by decide) _ _ _ [.int .i64 key, .int .i64 val] (by rfl) hown (by rfl) rfl ?c11 ?c21 (by decide) ?c31 ?_)
      case c11 => intro u hu; simp at hu; rcases hu with rfl | rfl <;> rfl
      case c21 => omega
      case c31 => exact hb.size
      intro v1 w1 ho1' hg1
      have hb1 : Below w.heap.size w w1 := (hb.alloc hb.size _).grown hg1 (by have := hb.size; simp; omega) (fun k hk => (hown.1.lt k hk).1)
      clear hg1
      go_wp2
      go_ret
      exact ⟨_, rfl, by rw [HP.out]; exact ho1', by rw [HP.out]; intro e he; simp at he; subst he; exact ⟨HK.out, HV.out⟩, hb1⟩
theorem l4Put_spec (a : Option Addr) (n cap : Nat) (l : List Ent) (key val : Int) (w : World) (h : RowE w a n l) (hn : n ≤ 1000) (hk : (Lit.int .i64 key).wf = true) (hv : (Lit.int .i64 val).wf = true) :
    Calls Try.prog 67 #[.slice a n cap, .int .i64 key, .int .i64 val] w (NewE w 42 (pm key val l)) := by
  rw [← pwRaw_eq]; exact l4Put_raw a n cap l key val w h hn hk hv
theorem layerReadM_eq (S : List Ent) (L : List Lay) (n key : Int) : layerReadM S L n key = if storeB S && layersB L && inB n (-1) ((L.length : Int) - 1) && inB key 0 31 then readM S L n key else -1 := rfl
set_option maxHeartbeats 1000000 in
theorem layerRead_spec (a b : Option Addr) (n m cap cap' : Nat) (S : List Ent) (L : List Lay) (k key : Int) (w : World) (h : RowE w a n S) (h' : RowL w b m L) :
    Calls Try.prog 19 #[.slice a n cap, .slice b m cap', .int .i64 k, .int .i64 key] w (IntQ (layerReadM S L k key) w) := by
  have HN := Lib.hid h'.1
  have hm := h'.2.1
  unfold maxLen at hm
  have HE : Hid (layerReadM S L k key = if storeB S && layersB L && inB k (-1) ((m : Int) - 1) && inB key 0 31 then readM S L k key else -1) := Lib.hid (by rw [← HN.out]; rfl)
  go_enter Try.func19, Try.ntmps19
  go_wp2_with fail
  refine (storeValid_spec a n cap S _ h).mono ?_; rintro e w1 ⟨rfl, hd1⟩
  cases hs : storeB S with
  | false =>
    have HV : Hid (layerReadM S L k key = -1) := Lib.hid (by rw [HE.out, hs]; rfl)
    go_wp2
    go_ret
    exact ⟨ret_int HV.out.symm, hd1⟩
  | true =>
    have HS := Lib.hid hs
    have h2 := h'.below (hd1.below w.heap.size)
    clear hs
    go_wp2_with fail
    refine (layersValid_spec b m cap' L _ h2).mono ?_; rintro e w2 ⟨rfl, hd2'⟩
    have hd2 := hd1.trans hd2'
    clear hd1 hd2'
    cases hl : layersB L with
    | false =>
      have HV : Hid (layerReadM S L k key = -1) := Lib.hid (by rw [HE.out, HS.out, hl]; rfl)
      go_wp2
      go_ret
      exact ⟨ret_int HV.out.symm, hd2⟩
    | true =>
      have HL := Lib.hid hl
      clear hl
      cases hi : inB k (-1) ((m : Int) - 1) with
      | false =>
        have HV : Hid (layerReadM S L k key = -1) := Lib.hid (by rw [HE.out, HS.out, HL.out, hi]; rfl)
        have HI := Lib.hid hi
        clear hi
        go_wp2_with (first | (go_at_call 49; refine (l1In_spec _ _ _ _).mono ?_; rintro e w' ⟨rfl, rfl⟩; rw [HI.out]))
        go_ret
        exact ⟨ret_int HV.out.symm, hd2⟩
      | true =>
        have hib := inB_true hi
        have HI := Lib.hid hi
        clear hi
        cases hk : inB key 0 31 with
        | false =>
          have HV : Hid (layerReadM S L k key = -1) := Lib.hid (by rw [HE.out, HS.out, HL.out, HI.out, hk]; rfl)
          have HK := Lib.hid hk
          clear hk
          go_wp2_with (first | (go_at_call 49; refine (l1In_spec _ _ _ _).mono ?_; rintro e w' ⟨rfl, rfl⟩; first | rw [HI.out] | rw [HK.out]))
          go_ret
          exact ⟨ret_int HV.out.symm, hd2⟩
        | true =>
          have HV : Hid (layerReadM S L k key = readM S L k key) := Lib.hid (by rw [HE.out, HS.out, HL.out, HI.out, hk]; rfl)
          have HK := Lib.hid hk
          have HRS := Lib.hid (h.below (hd2.below w.heap.size))
          have HRL := Lib.hid (h'.below (hd2.below w.heap.size))
          clear hk
          go_wp2_with (first | (go_at_call 49; refine (l1In_spec _ _ _ _).mono ?_; rintro e w' ⟨rfl, rfl⟩; first | rw [HI.out] | rw [HK.out]) | (go_at_call 57; refine (l4Read_spec a b n m cap cap' S L k key _ HRS.out HRL.out HL.out (by omega) (by omega)).mono ?_; rintro e w' ⟨rfl, rfl⟩))
          go_ret
          exact ⟨ret_int HV.out.symm, hd2⟩
end Go.Proofs.Ytcaombogffmopaa
/- The contracts of the model's LayerStore, l4Copy, ForkLayer, LayerWrite. -/
namespace Go.Proofs.Ytcaombogffmopaa
open Go.RowKit
set_option linter.unusedVariables false
theorem infoLayS : (Try.prog.info? 28).map (fun i => (i.zero, i.size, i.bytes)) = some (some (.agg #[.int .i64 0, .slice none 0 0]), 2, 32) := by kernel_rfl
/-- The first k layers, copied. -/
def CopyL (w : World) (B : Nat) (v : Value) (L : List Lay) (k : Nat) : Prop := ∃ xs, Own2 w B w.heap.size 28 2 v k ((L.take k).flatMap (layC 42)) xs
theorem takeL_snoc (L : List Lay) (k : Nat) (h : k < L.length) : L.take (k + 1) = L.take k ++ [L.getD k (0, [])] := by
  rw [List.take_succ_eq_append_getElem h, List.getD_eq_getElem?_getD, List.getElem?_eq_getElem h]; rfl
theorem layC_app (e : TypeId) (L : List Lay) (x : Lay) : (L ++ [x]).flatMap (layC e) = L.flatMap (layC e) ++ layC e x := by simp [List.flatMap_append]
theorem layC_els (w : World) (y : Int) (v : Value) (l : List Ent) (T : Nat) (hy : (Lit.int .i64 y).wf = true) (hv : w.ownsRow T 42 2 v l.length (flatE l)) (hw : WfE l) (hl : l.length ≤ 4000000) :
    ∀ (i : Nat) (c : Cel) (z : Value), (layC 42 (y, l))[i]? = some c → [Value.int .i64 y, v][i]? = some z → c.own w z ∧ ∀ b, blk z = some b → T ≤ b := by
  intro i c z hc hz
  match i, hc, hz with
  | 0, hc, hz => simp [layC] at hc hz; subst hc; subst hz; exact ⟨⟨rfl, hy⟩, fun b hb => (by cases hb)⟩
  | 1, hc, hz => simp [layC] at hc hz; subst hc; subst hz; exact ⟨ents_own hv hw hl, fun b hb => (by rw [owns_blk hv] at hb; exact (hv.lt b hb).1)⟩
  | i + 2, hc, hz => simp [layC] at hc
theorem apart_two (n : Int) (v : Value) : Apart [Value.int .i64 n, v] := by
  refine apart_cons.2 ⟨fun x hx p hp => (by cases hp), apart_cons.2 ⟨fun x hx => (by cases hx), List.Pairwise.nil⟩⟩
set_option maxRecDepth 100000 in
set_option maxHeartbeats 4000000 in
theorem l4Copy_spec (a : Option Addr) (n cap : Nat) (L : List Lay) (w : World) (h : RowL w a n L) (hL : layersB L = true) :
    Calls Try.prog 63 #[.slice a n cap] w (NewLL w 28 42 L) := by
  have HWF := Lib.hid h.2.2.2
  obtain ⟨hl, hm, hc, -⟩ := h
  have HN := Lib.hid hl; clear hl
  have HLV := Lib.hid hL
  have h20 : n ≤ 20 := by have := ((layersB_iff L).1 hL).2; rw [HN.out] at this; exact this
  clear hL hm
  have hm0 : CopyL (w.alloc (.cells #[] 28)) w.heap.size (.slice (some ⟨w.heap.size, 0, none⟩) 0 0) L 0 := ⟨[], own2_lit _ 2 (Nat.le_refl _) (by simp)⟩
  have hb0 := (Below.refl w.heap.size w).alloc (Nat.le_refl _) (.cells #[] 28)
  go_enter Try.func63, Try.ntmps63
  go_wp2
  by_cases h0 : 0 < n
  · obtain ⟨b, off, rfl, hcc⟩ := hc h0; clear hc; have hc := hcc; clear hcc
    have hbB : b < w.heap.size := World.block_lt_of_cell? w ⟨b, off + 0 * 2, none⟩ (hc 0 h0).1
    go_loopw [3, 4] (fun v i wr => ∃ k : Nat, k ≤ n ∧ i = .int .i64 k ∧ CopyL wr w.heap.size v L k ∧ Below w.heap.size w wr) (fun _ i _ => n - (intOf i).toNat)
    case atStart => exact ⟨0, Nat.zero_le _, rfl, hm0, hb0⟩
    case round =>
      clear hm0 hb0
      obtain ⟨k, hk, rfl, hfw, hb⟩ := hrel
      by_cases hlt : k < n
      · obtain ⟨c1, x, c2, hs⟩ := hc k hlt
        have hc1 := (hb.cell (p := ⟨b, off + k * 2, none⟩) hbB).trans c1
        have hc2 := (hb.cell (p := ⟨b, off + k * 2 + 1, none⟩) hbB).trans c2
        have hwr := lay_wr HLV.out k (by rw [HN.out]; exact hlt)
        have hwl := wr_len ((writesB_ok _).2 hwr)
        have hwf := HWF.out _ (getD_memL L k (by rw [HN.out]; exact hlt))
        have HT := Lib.hid (takeL_snoc L k (by rw [HN.out]; exact hlt))
        obtain ⟨a', n', cap', rfl, hre, hcz, hcl⟩ := hs
        have hre2 := hre.below hb
        obtain ⟨xs, hO⟩ := hfw
        clear hc c1 c2 hwr hre
        obtain ⟨⟨y, l⟩, hyl⟩ : ∃ p, p = L.getD k (0, []) := ⟨_, rfl⟩
        rw [← hyl] at hc1 hwf hwl hre2 HT
        clear hyl
        simp only at hc1 hwf hwl hre2
        have HLN := Lib.hid hre2.1
        have hn32 : n' ≤ 32 := by rw [← HLN.out]; exact hwl
        have HWE := Lib.hid hre2.2.2.2
        have HWY := Lib.hid hwf
        clear hwf hwl
        have hE0 : Own (wr.alloc (.cells #[] 42)).drew wr.heap.size 42 2 (.slice (some ⟨wr.heap.size, 0, none⟩) 0 0) 0 [] := (own_lit 42 2 #[] 0 (Nat.le_refl _) (by simp) rfl : Own (wr.alloc (.cells #[] 42)) wr.heap.size 42 2 (.slice (some ⟨wr.heap.size, 0, none⟩) 0 0) 0 [])
        have hbl := (Below.refl wr.heap.size wr).alloc (Nat.le_refl _) (.cells #[] 42)
        have hnews := (show RowE (wr.alloc (.cells #[] 42)).drew a' n' l from hre2.below hbl.drew).news
        have hnil : a' = none → n' = 0 ∧ cap' = 0 := by
          intro he
          refine ⟨?_, hcz he⟩
          rcases Nat.eq_zero_or_pos n' with h | h
          · exact h
          · obtain ⟨b1, o1, h2, _⟩ := hre2.2.2.1 h; rw [he] at h2; cases h2
        have hbw : b < wr.heap.size := Nat.lt_of_lt_of_le hbB hb.size
        have hcA1 := (hbl.cell (p := ⟨b, off + k * 2, none⟩) hbw).trans hc1
        have hcA2 := (hbl.cell (p := ⟨b, off + k * 2 + 1, none⟩) hbw).trans hc2
        have HE0 := Lib.hid hE0
        have HNW := Lib.hid hnews
        have HNL := Lib.hid hnil
        have HO := Lib.hid hO
        have HB := Lib.hid hb
        clear hE0 hnews hnil hO hre2
        have q1 : (0 : Int) ≤ (k : Int) := by omega
        go_wp2_with fail
        have HBL := Lib.hid hbl.drew
        clear hbl
        have hsz := HB.out.size
        go_region_law (first | (refine step_append_rows rfl (.tmp 18) (.tmp 23) 26 rfl wr.heap.size 42 (.agg #[.int .i64 0, .int .i64 0]) 2 16 Try.underlying26 infoEnt rfl (by decide) _ 0 [] (flatE l) (by rfl) HE0.out a' n' cap' (by rfl) HNL.out (by rw [flatE_len, HLN.out]) HNW.out (flatE_oneCell l) (by omega) (by decide) (by simp) ?_; intro v24 w24 ho24 hg24; (rw [Nat.zero_add, List.nil_append] at ho24; obtain ⟨g24, c24, rfl, hg24b, hg24c⟩ := ho24.slice; have hb24 : Below wr.heap.size wr w24 := HBL.out.grown hg24 (by simp) (fun q hq => by simp [Value.ownBlock] at hq; omega); have hcB1 := (hb24.cell (p := ⟨b, off + k * 2, none⟩) hbw).trans hc1; have hcB2 := (hb24.cell (p := ⟨b, off + k * 2 + 1, none⟩) hbw).trans hc2; have hO24 := HO.out.below hb24; have hE24 : w24.ownsRow wr.heap.size 42 2 (.slice (some ⟨g24, 0, none⟩) n' c24) l.length (flatE l) := (by rw [HLN.out]; exact ho24.1); have hs24 := hb24.size)) | (refine step_append_el rfl (.tmp 12) (.tmp 26) 23 rfl w.heap.size wr.heap.size 28 _ (.agg #[.int .i64 0, .slice none 0 0]) 2 32 Try.underlying23 infoLayS rfl (by decide) _ k _ xs (layC 42 (y, l)) [.int .i64 y, .slice (some ⟨g24, 0, none⟩) n' c24] (by rfl) hO24 (by rfl) rfl rfl (layC_els w24 y _ l wr.heap.size HWY.out hE24 HWE.out (by rw [HLN.out]; omega)) (apart_two _ _) (by omega) (by decide) (by omega) (by omega) (by omega) ?_; intro v27 w27 xs27 ho27 hnn27 hb27 hz27))
        all_goals
          have HF := Lib.hid (show CopyL w27 w.heap.size v27 L (k + 1) from ⟨xs27, by rw [HT.out, layC_app]; exact ho27⟩)
          have HB2 := Lib.hid (HB.out.trans ((hb24.mono hsz).trans hb27))
          clear hcB1 hcB2 ho27 hnn27 hb27 hz27 hO24 hE24 ho24 hg24 hb24 hs24 hcA1 hcA2 hc1 hc2
          go_wp2
          go_roundw
          case rel => exact ⟨k + 1, by omega, by go_num, HF.out, HB2.out⟩
          case measure => simp [intOf]; omega
      · obtain rfl : k = n := by omega
        obtain ⟨xs, hO⟩ := hfw
        have e : L.take k = L := List.take_of_length_le (by rw [HN.out]; omega)
        rw [e] at hO
        have HO := Lib.hid hO
        clear hO e hc
        go_wp2
        go_ret
        exact ⟨_, rfl, ⟨by rw [HN.out]; omega, xs, by rw [HN.out]; exact HO.out⟩, hb⟩
  · obtain rfl : n = 0 := by omega
    obtain rfl : L = [] := List.eq_nil_of_length_eq_zero HN.out
    have HM := Lib.hid hm0
    clear hc hm0
    go_loopw [3, 4] (fun v i wr => v = .slice (some ⟨w.heap.size, 0, none⟩) 0 0 ∧ i = .int .i64 0 ∧ wr = w.alloc (.cells #[] 28)) (fun _ _ _ => 0)
    case atStart => exact ⟨rfl, rfl, rfl⟩
    case round =>
      obtain ⟨rfl, rfl, rfl⟩ := hrel
      go_wp2
      go_ret
      exact ⟨_, rfl, ⟨by simp, HM.out⟩, hb0⟩
end Go.Proofs.Ytcaombogffmopaa
/- The contracts of the model's ForkLayer, LayerWrite, LayerStore. -/
namespace Go.Proofs.Ytcaombogffmopaa
open Go.RowKit
set_option linter.unusedVariables false
theorem forkM_eq (L : List Lay) (n : Int) : forkM L n = if layersB L then (if inB n (-1) ((L.length : Int) - 1) && decide (L.length ≠ 20) then (L ++ [(n, [])], true) else (L, false)) else ([], false) := rfl
theorem ownL_lit {w : World} {B T : Nat} (hB : B ≤ w.heap.size) (hT : w.heap.size < T) : OwnL (w.alloc (.cells #[] 28)) B T 28 42 (.slice (some ⟨w.heap.size, 0, none⟩) 0 0) [] := ⟨by simp, [], own2_lit _ 2 hB hT⟩
theorem layC_newS (w : World) (n : Int) (hn : (Lit.int .i64 n).wf = true) (T : Nat) : ∀ (i : Nat) (c : Cel) (y : Value), (layC 42 (n, []))[i]? = some c → [Value.int .i64 n, .slice none 0 0][i]? = some y → c.own w y ∧ ∀ b, blk y = some b → T ≤ b :=
  layC_els w n (.slice none 0 0) [] T hn (World.ownsRow_nil _ _ _ _) (fun e he => by cases he) (by simp)
set_option maxRecDepth 100000 in
set_option maxHeartbeats 1000000 in
theorem forkLayer_spec (a : Option Addr) (m cap : Nat) (L : List Lay) (n : Int) (w : World) (h : RowL w a m L) (hn : (Lit.int .i64 n).wf = true) :
    Calls Try.prog 24 #[.slice a m cap, .int .i64 n] w (NewLB w 28 42 (forkM L n).1 (forkM L n).2) := by
  have HW := Lib.hid hn; clear hn
  have HN := Lib.hid h.1
  have hmx := h.2.1
  unfold maxLen at hmx
  have HR := Lib.hid h; clear h
  go_enter Try.func24, Try.ntmps24
  go_wp2_with fail
  refine (layersValid_spec a m cap L _ HR.out).mono ?_; rintro e w1 ⟨rfl, hd⟩
  have hb := hd.below w.heap.size
  have hR1 := HR.out.below hb
  clear hd
  cases hL : layersB L with
  | false =>
    have HF : Hid (forkM L n = ([], false)) := Lib.hid (by simp [forkM, hL])
    clear hL
    go_wp2
    go_ret2
    rw [HF.out]
    exact ⟨_, rfl, ownL_lit hb.size (by simp), hb.alloc hb.size _⟩
  | true =>
    have HL := Lib.hid hL
    have h20 := ((layersB_iff L).1 hL).2
    clear hL
    go_wp2_with fail
    refine (l4Copy_spec a m cap L _ hR1 HL.out).mono ?_; rintro e w2 ⟨v, rfl, hv, hb2⟩
    have HV := Lib.hid hv
    clear hv hR1
    cases hi : inB n (-1) ((m : Int) - 1) with
    | false =>
      have HF : Hid (forkM L n = (L, false)) := Lib.hid (by simp [forkM, HL.out, HN.out, hi])
      have HI := Lib.hid hi
      clear hi
      go_wp2_with (first | (go_at_call 49; refine (l1In_spec _ _ _ _).mono ?_; rintro e w' ⟨rfl, rfl⟩; rw [HI.out]))
      go_ret2
      rw [HF.out]
      exact ⟨_, rfl, HV.out.mono hb.size (Nat.le_refl _), hb.trans (hb2.mono hb.size)⟩
    | true =>
      have HI := Lib.hid hi
      by_cases he : m = 20
      · have HF : Hid (forkM L n = (L, false)) := Lib.hid (by simp [forkM, HL.out, HN.out, he])
        have hmb : ((m : Int) == 20) = true := by simp; omega
        clear hi he
        go_wp2_with (first | (go_at_call 49; refine (l1In_spec _ _ _ _).mono ?_; rintro e w' ⟨rfl, rfl⟩; rw [HI.out]))
        go_ret2
        rw [HF.out]
        exact ⟨_, rfl, HV.out.mono hb.size (Nat.le_refl _), hb.trans (hb2.mono hb.size)⟩
      · have HF : Hid (forkM L n = (L ++ [(n, [])], true)) := Lib.hid (by simp [forkM, HL.out, HN.out, hi, he])
        have hmb : ((m : Int) == 20) = false := by simp; omega
        clear hi he
        obtain ⟨hv0, xs, hv⟩ := HV.out
        go_wp2_with (first | (go_at_call 49; refine (l1In_spec _ _ _ _).mono ?_; rintro e w' ⟨rfl, rfl⟩; rw [HI.out]) | (at_builtin; go_loud (refine wpList_append_el rfl _ _ 23 rfl w1.heap.size _ 28 _ (.agg #[.int .i64 0, .slice none 0 0]) 2 32 Try.underlying23 infoLayS rfl (by decide) _ _ _ xs (layC 42 (n, [])) [.int .i64 n, .slice none 0 0] (by rfl) hv (by rfl) rfl rfl (layC_newS _ _ HW.out _) (apart_two _ _) hv0 (by decide) ?c2 ?c3 (Nat.le_refl _) ?_)))
        case c2 => exact hb2.size
        case c3 => exact hb2.size
        intro v3 w3 xs3 ho3 hnn hb3 hz3
        go_wp2
        go_ret2
        rw [HF.out]
        exact ⟨_, rfl, ⟨by simp; omega, xs3, by rw [layC_app, List.length_append]; exact ho3.mono hb.size (Nat.le_refl _)⟩, hb.trans ((hb2.trans hb3).mono hb.size)⟩
theorem layerWriteM_eq (L : List Lay) (n key val : Int) : layerWriteM L n key val = if layersB L then (if inB n 0 ((L.length : Int) - 1) && inB key 0 31 && inB val 0 1000000 then (writeL L n key val, true) else (L, false)) else ([], false) := rfl
/-- The writes of one layer, replaced by new ones. -/
theorem OwnL.write {w : World} {B T g cap : Nat} {L : List Lay} {v : Value} (h : OwnL w B T 28 42 (.slice (some ⟨g, 0, none⟩) L.length cap) L) (j : Nat) (hj : j < L.length) (l : List Ent)
    (hv : w.ownsRow T 42 2 v l.length (flatE l)) (hw : WfE l) (hl : l.length ≤ 4000000) (hB : B ≤ T) (hT : T ≤ w.heap.size) :
    OwnL (w.setCell ⟨g, j * 2 + 1, none⟩ v) B w.heap.size 28 42 (.slice (some ⟨g, 0, none⟩) L.length cap) (L.set j ((L.getD j (0, [])).1, l)) := by
  obtain ⟨h0, xs, h1⟩ := h
  have h2 := h1.setNew (T' := w.heap.size) (j * 2 + 1) (.ents 42 l) v (ents_own hv hw hl) (fun b hb => by rw [owns_blk hv] at hb; exact hv.lt b hb) hT hB
  rw [← flatMap_set (layC 42) 2 (layC_len _) L j 1 (L.getD j (0, [])) ((L.getD j (0, [])).1, l) _ (getD_some L j (0, []) hj) (by omega) rfl] at h2
  exact ⟨by rw [List.length_set]; exact h0, xs.set (j * 2 + 1) v, by rw [List.length_set]; exact h2⟩
set_option maxRecDepth 100000 in
set_option maxHeartbeats 1000000 in
theorem layerWrite_spec (a : Option Addr) (m cap : Nat) (L : List Lay) (n key val : Int) (w : World) (h : RowL w a m L) :
    Calls Try.prog 29 #[.slice a m cap, .int .i64 n, .int .i64 key, .int .i64 val] w (NewLB w 28 42 (layerWriteM L n key val).1 (layerWriteM L n key val).2) := by
  have HN := Lib.hid h.1
  have hmx := h.2.1
  unfold maxLen at hmx
  have HR := Lib.hid h; clear h
  go_enter Try.func29, Try.ntmps29
  go_wp2_with fail
  refine (layersValid_spec a m cap L _ HR.out).mono ?_; rintro e w1 ⟨rfl, hd⟩
  have hb := hd.below w.heap.size
  have hR1 := HR.out.below hb
  clear hd
  cases hL : layersB L with
  | false =>
    have HF : Hid (layerWriteM L n key val = ([], false)) := Lib.hid (by simp [layerWriteM, hL])
    clear hL
    go_wp2
    go_ret2
    rw [HF.out]
    exact ⟨_, rfl, ownL_lit hb.size (by simp), hb.alloc hb.size _⟩
  | true =>
    have HL := Lib.hid hL
    have h20 := ((layersB_iff L).1 hL).2
    clear hL
    go_wp2_with fail
    refine (l4Copy_spec a m cap L _ hR1 HL.out).mono ?_; rintro e w2 ⟨v, rfl, hv, hb2⟩
    have HV := Lib.hid hv
    have HR2 := Lib.hid (hR1.below hb2)
    clear hv hR1
    cases hi : (inB n 0 ((m : Int) - 1) && inB key 0 31 && inB val 0 1000000) with
    | false =>
      have HF : Hid (layerWriteM L n key val = (L, false)) := Lib.hid (by simp only [layerWriteM, HL.out, HN.out, hi]; rfl)
      cases h1 : inB n 0 ((m : Int) - 1) with
      | false =>
        have HI := Lib.hid h1
        clear hi h1
        go_wp2_with (first | (go_at_call 49; refine (l1In_spec _ _ _ _).mono ?_; rintro e w' ⟨rfl, rfl⟩; rw [HI.out]))
        go_ret2
        rw [HF.out]
        exact ⟨_, rfl, HV.out.mono hb.size (Nat.le_refl _), hb.trans (hb2.mono hb.size)⟩
      | true =>
        have HI := Lib.hid h1
        cases h2 : inB key 0 31 with
        | false =>
          have HI2 := Lib.hid h2
          clear hi h1 h2
          go_wp2_with (first | (go_at_call 49; refine (l1In_spec _ _ _ _).mono ?_; rintro e w' ⟨rfl, rfl⟩; first | rw [HI.out] | rw [HI2.out]))
          go_ret2
          rw [HF.out]
          exact ⟨_, rfl, HV.out.mono hb.size (Nat.le_refl _), hb.trans (hb2.mono hb.size)⟩
        | true =>
          have h3 : inB val 0 1000000 = false := by rw [h1, h2] at hi; simpa using hi
          have HI2 := Lib.hid h2
          have HI3 := Lib.hid h3
          clear hi h1 h2 h3
          go_wp2_with (first | (go_at_call 49; refine (l1In_spec _ _ _ _).mono ?_; rintro e w' ⟨rfl, rfl⟩; first | rw [HI.out] | rw [HI2.out] | rw [HI3.out]))
          go_ret2
          rw [HF.out]
          exact ⟨_, rfl, HV.out.mono hb.size (Nat.le_refl _), hb.trans (hb2.mono hb.size)⟩
    | true =>
      have HF : Hid (layerWriteM L n key val = (writeL L n key val, true)) := Lib.hid (by simp only [layerWriteM, HL.out, HN.out, hi]; rfl)
      simp only [Bool.and_eq_true] at hi
      obtain ⟨⟨h1, h2⟩, h3⟩ := hi
      have b1 := inB_true h1
      have b2 := inB_true h2
      have b3 := inB_true h3
      have HI := Lib.hid h1
      have HI2 := Lib.hid h2
      have HI3 := Lib.hid h3
      clear h1 h2 h3
      obtain ⟨j, rfl⟩ : ∃ j : Nat, n = (j : Int) := ⟨n.toNat, by omega⟩
      have hjL : j < L.length := by rw [HN.out]; omega
      have hjm : j < m := by omega
      obtain ⟨bb, off, rfl, hcc⟩ := HR2.out.2.2.1 (by omega)
      obtain ⟨c1, x, c2, hs⟩ := hcc j hjm
      have hwr := lay_wr HL.out j hjL
      have hwl := wr_len ((writesB_ok _).2 hwr)
      have hwp := wr_pm (key := key) (val := val) hwr b2.1 b2.2 b3.1 b3.2
      have hwlp := wr_len ((writesB_ok _).2 hwp)
      have hkw : (Lit.int .i64 key).wf = true := WalkArith.wf_i64 (by omega)
      have hvw : (Lit.int .i64 val).wf = true := WalkArith.wf_i64 (by omega)
      have HE : Hid (writeL L j key val = L.set j ((L.getD j (0, [])).1, pm key val (L.getD j (0, [])).2)) := Lib.hid (by simp [writeL])
      obtain ⟨l, hll⟩ : ∃ l, l = (L.getD j (0, [])).2 := ⟨_, rfl⟩
      rw [← hll] at hs hwl HE hwlp
      clear hll hwr hwp
      obtain ⟨y, hy⟩ : ∃ y, y = (L.getD j (0, [])).1 := ⟨_, rfl⟩
      rw [← hy] at c1
      clear hy
      obtain ⟨a', n', cap', rfl, hre, hcz, hcl⟩ := hs
      obtain ⟨ga, ca, rfl⟩ : ∃ ga ca, v = .slice (some ⟨ga, 0, none⟩) L.length ca := by
        obtain ⟨h0, xs, h1⟩ := HV.out
        rcases slice_of_owns h1.1 with ⟨_, h2⟩ | ⟨g', cap', h2, _⟩
        · omega
        · exact ⟨g', cap', h2⟩
      have hn32 : n' ≤ 32 := by rw [← hre.1]; exact hwl
      have HRE := Lib.hid hre
      have HKW := Lib.hid hkw
      have HVW := Lib.hid hvw
      rw [HN.out] at HV ⊢
      clear hcc hre hkw hvw
      go_wp2_with (first | (go_at_call 49; refine (l1In_spec _ _ _ _).mono ?_; rintro e w' ⟨rfl, rfl⟩; first | rw [HI.out] | rw [HI2.out] | rw [HI3.out]))
      refine (l4Put_spec a' n' cap' l key val _ HRE.out (by omega) HKW.out HVW.out).mono ?_; rintro e w4 ⟨v4, rfl, ho4, hw4, hb4⟩
      have hO4 := HV.out.below hb4
      obtain ⟨-, x4, y4, hx4, hy4, hf4, hf5, hg4, hg5, hg6⟩ := hO4.cell j hjL
      obtain ⟨g4, c4, rfl, -, -⟩ := ho4.slice
      have hs2 := hb2.size
      have hs4 := hb4.size
      have hbf := (hb2.trans (hb4.mono hs2)).mono hb.size
      have HF4 := Lib.hid (OwnL.write (by rw [HN.out]; exact hO4) j hjL (pm key val l) ho4.1 hw4 (by omega) hs2 hs4)
      have HBF := Lib.hid ((hb.trans hbf).setCell (p := ⟨ga, j * 2 + 1, none⟩) (Nat.le_trans hb.size hg5) (.slice (some ⟨g4, 0, none⟩) (pm key val l).length c4))
      have hbs := hb.size
      clear hO4 hx4 hf4 hb4 hb2 hb hbf ho4 hw4
      go_wp2
      go_ret2
      rw [HF.out, HE.out]
      exact ⟨_, rfl, by have := HF4.out; rw [HN.out] at this; exact this.mono hbs (by simp [World.setCell]), HBF.out⟩
end Go.Proofs.Ytcaombogffmopaa
/- The contract of the model's LayerStore. -/
namespace Go.Proofs.Ytcaombogffmopaa
open Go.RowKit
set_option linter.unusedVariables false
theorem layerStoreM_eq (S : List Ent) (L : List Lay) (n : Int) : layerStoreM S L n = if storeB S && layersB L && inB n (-1) ((L.length : Int) - 1) then entTo (readArr S L n) 32 else [] := rfl
set_option maxHeartbeats 4000000 in
theorem layerStore_spec (a b : Option Addr) (n m cap cap' : Nat) (S : List Ent) (L : List Lay) (k : Int) (w : World) (h : RowE w a n S) (h' : RowL w b m L) :
    Calls Try.prog 31 #[.slice a n cap, .slice b m cap', .int .i64 k] w (NewE w 42 (layerStoreM S L k)) := by
  have HN := Lib.hid h'.1
  have hm := h'.2.1
  unfold maxLen at hm
  have HE : Hid (layerStoreM S L k = if storeB S && layersB L && inB k (-1) ((m : Int) - 1) then entTo (readArr S L k) 32 else []) := Lib.hid (by rw [← HN.out]; rfl)
  have hnil : Own (w.alloc (.cells #[] 42)) w.heap.size 42 2 (.slice (some ⟨w.heap.size, 0, none⟩) 0 0) 0 [] := own_lit 42 2 #[] 0 (Nat.le_refl _) (by simp) rfl
  have hb0 := (Below.refl w.heap.size w).alloc (Nat.le_refl _) (.cells #[] 42)
  go_enter Try.func31, Try.ntmps31
  go_wp2_with fail
  refine (storeValid_spec a n cap S _ (h.below hb0)).mono ?_; rintro e w1 ⟨rfl, hd1⟩
  have hb1 := hb0.trans (hd1.below w.heap.size)
  have ho1 := hnil.drawn hd1
  clear hd1 hb0 hnil
  cases hs : storeB S with
  | false =>
    have HV : Hid (layerStoreM S L k = []) := Lib.hid (by rw [HE.out, hs]; rfl)
    clear hs
    go_wp2
    go_ret
    exact ⟨_, rfl, by rw [HV.out]; exact ho1, (by rw [HV.out]; intro e he; cases he), hb1⟩
  | true =>
    have HS := Lib.hid hs
    clear hs
    go_wp2_with fail
    refine (layersValid_spec b m cap' L _ (h'.below hb1)).mono ?_; rintro e w2 ⟨rfl, hd2⟩
    have hb2 := hb1.trans (hd2.below w.heap.size)
    have ho2 := ho1.drawn hd2
    clear hd2 hb1 ho1
    cases hl : layersB L with
    | false =>
      have HV : Hid (layerStoreM S L k = []) := Lib.hid (by rw [HE.out, HS.out, hl]; rfl)
      clear hl
      go_wp2
      go_ret
      exact ⟨_, rfl, by rw [HV.out]; exact ho2, (by rw [HV.out]; intro e he; cases he), hb2⟩
    | true =>
      have HL := Lib.hid hl
      clear hl
      cases hi : inB k (-1) ((m : Int) - 1) with
      | false =>
        have HV : Hid (layerStoreM S L k = []) := Lib.hid (by rw [HE.out, HS.out, HL.out, hi]; rfl)
        have HI := Lib.hid hi
        clear hi
        go_wp2_with (first | (go_at_call 49; refine (l1In_spec _ _ _ _).mono ?_; rintro e w' ⟨rfl, rfl⟩; rw [HI.out]))
        go_ret
        exact ⟨_, rfl, by rw [HV.out]; exact ho2, (by rw [HV.out]; intro e he; cases he), hb2⟩
      | true =>
        have hib := inB_true hi
        have HV : Hid (layerStoreM S L k = entTo (readArr S L k) 32) := Lib.hid (by rw [HE.out, HS.out, HL.out, hi]; rfl)
        have HBD := Lib.hid (bdA_read (n := k) HS.out HL.out (by rw [HN.out]; omega))
        have HRA := Lib.hid (fun j hj => readArr_get S L k j hj)
        have HI := Lib.hid hi
        clear hi
        obtain ⟨R, hR⟩ : ∃ R, R = readArr S L k := ⟨_, rfl⟩
        rw [← hR] at HV HBD HRA
        clear hR
        go_wp2_with (first | (go_at_call 49; refine (l1In_spec _ _ _ _).mono ?_; rintro e w' ⟨rfl, rfl⟩; rw [HI.out]))
        go_loopw [7, 8] (fun v i wr => ∃ j : Nat, j ≤ 32 ∧ i = .int .i64 j ∧ Own wr w.heap.size 42 2 v (entTo R j).length (flatE (entTo R j)) ∧ Below w.heap.size w wr) (fun _ i _ => 32 - (intOf i).toNat)
        case atStart => exact ⟨0, by omega, rfl, ho2, hb2⟩
        case round =>
          clear ho2 hb2
          obtain ⟨j, hj, rfl, hown, hb⟩ := hrel
          have hlen := entTo_len R j
          by_cases hlt : j < 32
          · have hj31 : decide ((j : Int) ≤ 31) = true := by simp; omega
            have HRS := Lib.hid (h.below hb)
            have HRL := Lib.hid (h'.below hb)
            have HX := Lib.hid (entTo_next R j)
            have hbd := HBD.out j hlt
            have HVJ := Lib.hid (HRA.out j hlt).symm
            obtain ⟨x, hx⟩ : ∃ x, x = R.getD j 0 := ⟨_, rfl⟩
            rw [← hx] at HX hbd HVJ
            clear hx
            by_cases hx0 : x = 0
            · have HX2 : Hid (entTo R (j + 1) = entTo R j) := Lib.hid (by rw [HX.out, if_pos hx0])
              have hxb : decide (0 < x) = false := by simp; omega
              clear HX hx0
              go_wp2_with (first | (go_at_call 57; refine (l4Read_spec a b n m cap cap' S L k j _ HRS.out HRL.out HL.out (by omega) (by omega)).mono ?_; rintro e w' ⟨rfl, rfl⟩; rw [HVJ.out]))
              go_roundw
              case rel => exact ⟨j + 1, by omega, by go_num, by rw [HX2.out]; exact hown, hb⟩
              case measure => simp [intOf]; omega
            · have HX2 : Hid (entTo R (j + 1) = entTo R j ++ [((j : Int), x)]) := Lib.hid (by rw [HX.out, if_neg hx0])
              have hxb : decide (0 < x) = true := by simp; omega
              clear HX hx0
              go_wp2_with (first | (go_at_call 57; refine (l4Read_spec a b n m cap cap' S L k j _ HRS.out HRL.out HL.out (by omega) (by omega)).mono ?_; rintro e w' ⟨rfl, rfl⟩; rw [HVJ.out]) | (at_builtin; refine wpList_append_one rfl _ _ 26 rfl w.heap.size 42 _ (.agg #[.int .i64 0, .int .i64 0]) 2 16 Try.underlying26 infoEnt rfl (by decide) _ _ _ [.int .i64 (j : Int), .int .i64 x] (by rfl) hown (by rfl) rfl ?c11 ?c21 (by decide) ?c31 ?_))
              case c11 => intro u hu; simp at hu; rcases hu with rfl | rfl <;> rfl
              case c21 => omega
              case c31 => exact hb.size
              intro v1 w5 ho1' hg1
              have hb5 : Below w.heap.size w w5 := (hb.alloc hb.size _).grown hg1 (by have := hb.size; simp; omega) (fun k hk => (hown.1.lt k hk).1)
              clear hg1
              go_wp2
              go_roundw
              case rel => exact ⟨j + 1, by omega, by go_num, by rw [HX2.out, flatE_append, List.length_append]; exact ho1', hb5⟩
              case measure => simp [intOf]; omega
          · obtain rfl : j = 32 := by omega
            go_wp2
            go_ret
            exact ⟨_, rfl, by rw [HV.out]; exact hown, (by rw [HV.out]; intro e he; have := (ok_entTo HBD.out).2 e he; exact ⟨WalkArith.wf_i64 (by omega), WalkArith.wf_i64 (by omega)⟩), hb⟩
end Go.Proofs.Ytcaombogffmopaa

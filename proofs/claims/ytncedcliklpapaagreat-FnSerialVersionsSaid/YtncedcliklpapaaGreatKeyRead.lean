/- The contracts of cmp.Compare (at versions), slices.BinarySearchFunc, and of the program's countBefore and keyVersions.read. -/
import Derived.Test.YtncedcliklpapaaGreatKeyMem
import Derived.Deep.Cut
import Derived.Test.YtncedcliklpapaaGreatVerBase
import Derived.Test.YtncedcliklpapaaGreatSpecVer2
namespace Go.Proofs.YtncedcliklpapaaGreat
open Go.RowKit
set_option linter.unusedVariables false
/-- What cmp.Compare answers. -/
def cmpV (x y : Int) : Int := if x < y then -1 else if y < x then 1 else 0
theorem isNaN_v (x : Int) (w : World) : Calls Tryz.prog 77 #[.int .i64 x] w fun e w' => e = .returned (.bool false) ∧ w = w' := by
  go_enter Tryz.func77, Tryz.ntmps77
  go_wp2
  go_ret
  exact ⟨by simp, rfl⟩
theorem compare_v (x y : Int) (w : World) : Calls Tryz.prog 74 #[.int .i64 x, .int .i64 y] w fun e w' => e = .returned (.int .i64 (cmpV x y)) ∧ w = w' := by
  by_cases h : x < y
  · have HE : Hid (cmpV x y = -1) := Lib.hid (by simp [cmpV, h])
    rw [HE.out]
    go_enter Tryz.func74, Tryz.ntmps74
    go_wp2_with (first | (go_at_call 77; refine (isNaN_v _ _).mono ?_; rintro e w' ⟨rfl, rfl⟩))
    go_ret
    exact ⟨rfl, rfl⟩
  · by_cases h2 : y < x
    · have HE : Hid (cmpV x y = 1) := Lib.hid (by simp [cmpV, h, h2])
      rw [HE.out]
      go_enter Tryz.func74, Tryz.ntmps74
      go_wp2_with (first | (go_at_call 77; refine (isNaN_v _ _).mono ?_; rintro e w' ⟨rfl, rfl⟩))
      go_ret
      exact ⟨rfl, rfl⟩
    · have HE : Hid (cmpV x y = 0) := Lib.hid (by simp [cmpV, h, h2])
      rw [HE.out]
      go_enter Tryz.func74, Tryz.ntmps74
      go_wp2_with (first | (go_at_call 77; refine (isNaN_v _ _).mono ?_; rintro e w' ⟨rfl, rfl⟩))
      go_ret
      exact ⟨rfl, rfl⟩
theorem countCmp_impl (p q r b : Int) (w : World) : Calls Tryz.prog 73 #[.agg #[.int .i64 p, .int .i64 q, .int .i64 r], .int .i64 b] w fun e w' => e = .returned (.int .i64 (cmpV q b)) ∧ Below w.heap.size w w' := by
  have hB := ((Below.refl w.heap.size w).alloc (Nat.le_refl _) (.cells #[.int .i64 p, .int .i64 q, .int .i64 r] 68))
  go_enter Tryz.func73, Tryz.ntmps73
  go_wp2_with (first | (go_at_call 74; refine (compare_v _ _ _).mono ?_; rintro e w' ⟨rfl, rfl⟩))
  go_ret
  exact ⟨rfl, hB⟩
/-- A place, a truth value, and nothing old has turned. -/
def CutR (l : List Ver) (b : Int) (w : World) (e : Ending) (w' : World) : Prop := ∃ (c : Nat) (t : Bool), e = .returned (.tuple #[.int .i64 c, .bool t]) ∧ CutB l b c ∧ Below w.heap.size w w'
set_option maxRecDepth 100000 in
set_option maxHeartbeats 4000000 in
theorem search_v (a : Option Addr) (n cap : Nat) (l : List Ver) (b : Int) (w : World) (h : RowV w a n l) (hn : n ≤ 4000000) (hs : l.Pairwise (fun x y => x.by_ < y.by_)) :
    Calls Tryz.prog 72 #[.slice a n cap, .int .i64 b, .func (.func 73) #[] #[]] w (CutR l b w) := by
  have HL := Lib.hid h.1
  have hc := h.2.2.1
  have HS := Lib.hid hs
  clear h hs
  go_enter Tryz.func72, Tryz.ntmps72
  go_wp2
  go_loopw [9, 10] (fun i j wr => ∃ I J : Nat, I ≤ J ∧ J ≤ n ∧ i = .int .i64 I ∧ j = .int .i64 J ∧ Hid (∀ t, t < I → (l.getD t noV).by_ < b) ∧ Hid (∀ t, J ≤ t → t < n → b ≤ (l.getD t noV).by_) ∧ Below w.heap.size w wr) (fun i j _ => (intOf j).toNat - (intOf i).toNat)
  case atStart => exact ⟨0, n, Nat.zero_le _, Nat.le_refl _, rfl, rfl, Lib.hid (fun t ht => absurd ht (Nat.not_lt_zero t)), Lib.hid (fun t h1 h2 => absurd h2 (by omega)), Below.refl _ _⟩
  case round =>
    obtain ⟨I, J, hIJ, hJn, rfl, rfl, HI, HJ, hb⟩ := hrel
    by_cases hlt : I < J
    · obtain ⟨H, hH⟩ : ∃ H : Nat, H = (I + J) / 2 := ⟨_, rfl⟩
      have hH1 : I ≤ H := by omega
      have hH2 : H < J := by omega
      have hlt' : (I : Int) < (J : Int) := by omega
      have e1 : ((I : Int) + (J : Int)) / 2 = (H : Int) := by omega
      obtain ⟨g, off, rfl, hcc⟩ := hc (by omega)
      obtain ⟨c1, c2, c3⟩ := hcc H (by omega)
      have hgs : g < w.heap.size := World.block_lt_of_cell? w ⟨g, off + H * 3, none⟩ c1
      have hc1 := (hb.cell (p := ⟨g, off + H * 3, none⟩) hgs).trans c1
      have hc2 := (hb.cell (p := ⟨g, off + H * 3 + 1, none⟩) hgs).trans c2
      have hc3 := (hb.cell (p := ⟨g, off + H * 3 + 2, none⟩) hgs).trans c3
      have q1 : (0 : Int) ≤ (H : Int) := by omega
      have q2 : (H : Int) < (n : Int) := by omega
      clear c1 c2 c3 hc hcc hH
      obtain ⟨X, hX⟩ : ∃ X, X = l.getD H noV := ⟨_, rfl⟩
      have HX : Hid (l.getD H noV = X) := Lib.hid hX.symm
      rw [← hX] at hc1 hc2 hc3
      clear hX
      obtain ⟨x, y, z⟩ := X
      simp only at hc1 hc2 hc3
      by_cases hq : y < b
      · have HZ : Hid (cmpV y b = -1) := Lib.hid (if_pos hq)
        have HI2 : Hid (∀ t, t < H + 1 → (l.getD t noV).by_ < b) := Lib.hid fun t ht => by
          by_cases e : t = H
          · rw [e, HX.out]; exact hq
          · have := asc_get HS.out (show t < H by omega) (by rw [HL.out]; omega)
            rw [HX.out] at this
            exact Int.lt_trans this hq
        clear hq HI HX
        go_wp2_with (first | (go_at_call 73; refine (countCmp_impl _ _ _ _ _).mono ?_; rintro e w' ⟨rfl, hb'⟩; rw [HZ.out]))
        go_roundw
        case rel => exact ⟨H + 1, J, by omega, hJn, by go_num, rfl, HI2, HJ, hb.trans (hb'.mono hb.size)⟩
        case measure => simp [intOf]; omega
      · have HZ : Hid (¬ cmpV y b < 0) := Lib.hid (by unfold cmpV; rw [if_neg hq]; split <;> omega)
        have HJ2 : Hid (∀ t, H ≤ t → t < n → b ≤ (l.getD t noV).by_) := Lib.hid fun t h1 h2 => by
          by_cases e : t = H
          · rw [e, HX.out]; exact Int.not_lt.1 hq
          · have := asc_get HS.out (show H < t by omega) (by rw [HL.out]; omega)
            rw [HX.out] at this
            exact Int.le_trans (Int.not_lt.1 hq) (Int.le_of_lt this)
        clear hq HJ HX
        obtain ⟨m, hm⟩ : ∃ m, m = cmpV y b := ⟨_, rfl⟩
        rw [← hm] at HZ
        have HZZ := Lib.hid hm
        have hz0 : decide (m < 0) = false := decide_eq_false HZ.out
        clear hm
        go_wp2_with (first | (go_at_call 73; refine (countCmp_impl _ _ _ _ _).mono ?_; rintro e w' ⟨rfl, hb'⟩; rw [← HZZ.out]))
        go_roundw
        case rel => exact ⟨I, H, hH1, by omega, rfl, rfl, HI, HJ2, hb.trans (hb'.mono hb.size)⟩
        case measure => simp [intOf]; omega
    · obtain rfl : I = J := by omega
      have hcut : CutB l b I := ⟨by rw [HL.out]; exact hJn, HI.out, fun t h1 h2 => HJ.out t h1 (by rw [← HL.out]; exact h2)⟩
      have HC := Lib.hid hcut
      clear hcut HI HJ
      by_cases hln : I < n
      · obtain ⟨g, off, rfl, hcc⟩ := hc (by omega)
        obtain ⟨c1, c2, c3⟩ := hcc I hln
        have hgs : g < w.heap.size := World.block_lt_of_cell? w ⟨g, off + I * 3, none⟩ c1
        have hc1 := (hb.cell (p := ⟨g, off + I * 3, none⟩) hgs).trans c1
        have hc2 := (hb.cell (p := ⟨g, off + I * 3 + 1, none⟩) hgs).trans c2
        have hc3 := (hb.cell (p := ⟨g, off + I * 3 + 2, none⟩) hgs).trans c3
        have d1 : decide ((I : Int) < (n : Int)) = true := decide_eq_true (by omega)
        clear c1 c2 c3 hc hcc
        go_wp2_with (first | (go_at_call 73; refine (countCmp_impl _ _ _ _ _).mono ?_; rintro e w' ⟨rfl, hb'⟩))
        go_ret2
        exact ⟨I, _, rfl, HC.out, hb.trans (hb'.mono hb.size)⟩
      · obtain rfl : I = n := by omega
        have d1 : decide ((I : Int) < (I : Int)) = false := decide_eq_false (by omega)
        clear hc
        go_wp2
        go_ret2
        exact ⟨I, _, rfl, HC.out, hb⟩
/-- How many are of lesser actions, and nothing old has turned. -/
def CutN (l : List Ver) (b : Int) (w : World) (e : Ending) (w' : World) : Prop := ∃ c : Nat, e = .returned (.int .i64 c) ∧ CutB l b c ∧ Below w.heap.size w w'
theorem countBefore_impl (a : Option Addr) (n cap : Nat) (l : List Ver) (b : Int) (w : World) (h : RowV w a n l) (hn : n ≤ 4000000) (hs : l.Pairwise (fun x y => x.by_ < y.by_)) :
    Calls Tryz.prog 62 #[.slice a n cap, .int .i64 b] w (CutN l b w) := by
  have HS := Lib.hid hs
  clear hs
  go_enter Tryz.func62, Tryz.ntmps62
  go_wp2_with (first | (go_at_call 72; refine (search_v a n cap l b _ h hn HS.out).mono ?_; rintro e w' ⟨c, t, rfl, hc, hb⟩))
  go_ret
  exact ⟨c, rfl, hc, hb⟩
set_option maxHeartbeats 2000000 in
theorem keyRead_impl (g B : Nat) (T e0 : TypeId) (A : List Int) (k : Nat) (b : Int) (S : List Ent) (L : List Ver) (w : World) (hKV : KV w B g T e0 (ofK L)) (hA : A.length = 32) (hk : k < 32) (hv : A.getD k 0 = atM S k) (hL : VOk L) :
    Calls Tryz.prog 37 #[.pointer (some ⟨g, 0, none⟩), .agg (cellsI A), .int .i64 k, .int .i64 b] w (IntsB2 (readL S L k b) w) := by
  obtain ⟨vs, hV, hR, -⟩ := hKV
  have hKK := kok_ofK hL
  obtain ⟨a, cap, hvk, hrow, -⟩ := hR.row hKK hk
  have hln := catK_len hKK hk
  have HS := Lib.hid (hKK k hk).2
  have hgl := hV.lt
  have hcell := hV.cell k (by rw [hR.len]; exact hk)
  rw [hvk] at hcell
  have HRD := Lib.hid (fun c (hc : CutB (ofK L k) b c) => readK (S := S) hL hk hc)
  obtain ⟨l, hl⟩ : ∃ l, l = ofK L k := ⟨_, rfl⟩
  rw [← hl] at hrow hln HS hcell HRD
  clear hl hR hV hvk hKK
  have hb0 := (Below.refl w.heap.size w).alloc (Nat.le_refl _) (.cells (cellsI A) 71)
  have hA0 := Arr.new w 71 A
  obtain ⟨n, hn⟩ : ∃ n, n = l.length := ⟨_, rfl⟩
  rw [← hn] at hrow hcell hln
  have HN := Lib.hid hn
  clear hn
  have hk0 : (0 : Int) ≤ (k : Int) := by omega
  have hk1 : (k : Int) < 32 := by omega
  go_enter Tryz.func37, Tryz.ntmps37
  go_upto_region 1 with (fail)
  have hg1 : g ≠ w.heap.size := by omega
  have hcell1 := (hb0.cell (p := ⟨g, k, none⟩) hgl).trans hcell
  have hrow1 := hrow.below hb0
  have hlw : w.heap.size < (w.alloc (.cells (cellsI A) 71)).heap.size := by simp
  have hgw : g < (w.alloc (.cells (cellsI A) 71)).heap.size := by omega
  obtain ⟨w1, hw1⟩ : ∃ w1, w1 = w.alloc (.cells (cellsI A) 71) := ⟨_, rfl⟩
  rw [← hw1] at hb0 hA0 hcell1 hrow1 hlw hgw ⊢
  clear hw1 hcell hrow
  go_wp2_with fail
  refine (countBefore_impl a n cap l b _ hrow1 (by omega) HS.out).mono ?_; rintro e w2 ⟨c, rfl, hc, hb1⟩
  have hb2 := hb0.trans (hb1.mono hb0.size)
  have hcell2 := (hb1.cell (p := ⟨g, k, none⟩) hgw).trans hcell1
  have hA2 := hA0.after hb1
  have hrow2 := hrow1.below hb1
  have HR := Lib.hid (HRD.out c hc)
  have hcl : c ≤ n := by rw [HN.out]; exact hc.1
  clear hcell1 hrow1 HRD hb0 hA0 hb1 hc
  by_cases hc0 : c = 0
  · subst hc0
    have hav := hA2.cell k (by rw [hA]; exact hk)
    rw [hv] at hav
    clear hcell2 hrow2 hA2
    go_wp2
    go_ret2
    exact ⟨by rw [HR.out]; rfl, hb2⟩
  · have hc1 : ((c : Int) == 0) = false := by rw [beq_eq_false_iff_ne]; omega
    obtain ⟨j, rfl⟩ : ∃ j, c = j + 1 := ⟨c - 1, by omega⟩
    obtain ⟨g', off, rfl, hcc⟩ := hrow2.2.2.1 (by omega)
    obtain ⟨c1, c2, c3⟩ := hcc j (by omega)
    have hgs : g' < w2.heap.size := World.block_lt_of_cell? w2 ⟨g', off + j * 3, none⟩ c1
    rw [if_neg hc0, Nat.add_sub_cancel] at HR
    have e1 : IntKind.i64.wrap (j : Int) = (j : Int) := by rw [IntKind.wrap_i64]; omega
    have q1 : (0 : Int) ≤ (j : Int) := by omega
    have q2 : (j : Int) < (n : Int) := by omega
    clear hcc hrow2 hA2 hv hc0
    obtain ⟨X, hX⟩ : ∃ X, X = l.getD j noV := ⟨_, rfl⟩
    rw [← hX] at c1 c2 c3 HR
    clear hX
    obtain ⟨x, y, z⟩ := X
    simp only at c1 c2 c3 HR
    have hb3 := hb2.alloc hb2.size (.cells #[.int .i64 x, .int .i64 y, .int .i64 z] 68)
    go_wp2
    go_quiet (fail)
    go_wp2
    go_ret2
    exact ⟨by rw [HR.out]; rfl, below_drewN' hb3 _⟩
end Go.Proofs.YtncedcliklpapaaGreat

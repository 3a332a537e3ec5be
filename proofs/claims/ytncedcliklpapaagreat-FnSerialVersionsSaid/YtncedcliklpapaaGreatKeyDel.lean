/- The contracts of slices.IndexFunc and slices.DeleteFunc at versions, and of the program's keyVersions.drop. -/
import Derived.Test.YtncedcliklpapaaGreatRowOps
import Derived.Test.YtncedcliklpapaaGreatVerBase
import Derived.Deep.RegionLaw
import Derived.Deep.Cut
import Derived.BigQuiet
namespace Go.Proofs.YtncedcliklpapaaGreat
open Go.RowKit
set_option linter.unusedVariables false
theorem infoVerD : (Tryz.prog.info? 68).map (fun i => (i.zero, i.size, i.bytes)) = some (some (.agg #[.int .i64 0, .int .i64 0, .int .i64 0]), 3, 24) := by kernel_rfl
theorem delCmp_impl (p q r b : Int) (G : Nat) (w : World) (hG : w.cell? ⟨G, 0, none⟩ = some (.int .i64 b)) : Calls Tryz.prog 60 #[.agg #[.int .i64 p, .int .i64 q, .int .i64 r], .pointer (some ⟨G, 0, none⟩)] w fun e w' => e = .returned (.bool (q == b)) ∧ Below w.heap.size w w' := by
  have hB := ((Below.refl w.heap.size w).alloc (Nat.le_refl _) (.cells #[.int .i64 p, .int .i64 q, .int .i64 r] 68))
  have hGl : G < w.heap.size := World.block_lt_of_cell? w ⟨G, 0, none⟩ hG
  have hGn : G ≠ w.heap.size := by omega
  go_enter Tryz.func60, Tryz.ntmps60
  go_wp2
  go_ret
  exact ⟨rfl, hB⟩
/-- The place of the first one of an action, or -1; nothing old has turned. -/
def IdxR (l : List Ver) (b : Int) (w : World) (e : Ending) (w' : World) : Prop :=
  ∃ z : Int, e = .returned (.int .i64 z) ∧ Below w.heap.size w w' ∧ ((z = -1 ∧ ∀ x ∈ l, x.by_ ≠ b) ∨ ∃ i : Nat, i < l.length ∧ z = i ∧ (l.getD i noV).by_ = b ∧ ∀ j, j < i → (l.getD j noV).by_ ≠ b)
set_option maxRecDepth 100000 in
set_option maxHeartbeats 4000000 in
theorem indexV_any (a : Option Addr) (n cap : Nat) (l : List Ver) (b : Int) (G : Nat) (w : World) (h : RowV w a n l) (hn : n ≤ 4000000) (hG : w.cell? ⟨G, 0, none⟩ = some (.int .i64 b)) :
    Calls Tryz.prog 69 #[.slice a n cap, .func (.func 60) #[] #[.pointer (some ⟨G, 0, none⟩)]] w (IdxR l b w) := by
  have HL := Lib.hid h.1
  have hc := h.2.2.1
  have hGl : G < w.heap.size := World.block_lt_of_cell? w ⟨G, 0, none⟩ hG
  clear h
  go_enter Tryz.func69, Tryz.ntmps69
  go_wp2
  go_loopw [8] (fun i wr => ∃ k : Nat, k ≤ n ∧ i = .int .i64 k ∧ Hid (∀ j, j < k → (l.getD j noV).by_ ≠ b) ∧ Below w.heap.size w wr) (fun i _ => n - (intOf i).toNat)
  case atStart => exact ⟨0, Nat.zero_le _, rfl, Lib.hid (fun j hj => absurd hj (Nat.not_lt_zero j)), Below.refl _ _⟩
  case round =>
    obtain ⟨k, hk, rfl, HF, hb⟩ := hrel
    by_cases hlt : k < n
    · obtain ⟨g, off, rfl, hcc⟩ := hc (by omega)
      obtain ⟨c1, c2, c3⟩ := hcc k hlt
      have hgs : g < w.heap.size := World.block_lt_of_cell? w ⟨g, off + k * 3, none⟩ c1
      have hc1 := (hb.cell (p := ⟨g, off + k * 3, none⟩) hgs).trans c1
      have hc2 := (hb.cell (p := ⟨g, off + k * 3 + 1, none⟩) hgs).trans c2
      have hc3 := (hb.cell (p := ⟨g, off + k * 3 + 2, none⟩) hgs).trans c3
      have hG1 := (hb.cell (p := ⟨G, 0, none⟩) hGl).trans hG
      clear c1 c2 c3 hcc hc
      obtain ⟨X, hX⟩ : ∃ X, X = l.getD k noV := ⟨_, rfl⟩
      have HX : Hid (l.getD k noV = X) := Lib.hid hX.symm
      rw [← hX] at hc1 hc2 hc3
      clear hX
      obtain ⟨x, y, z⟩ := X
      simp only at hc1 hc2 hc3
      by_cases hq : y = b
      · have HQ : Hid ((y == b) = true) := Lib.hid (by simpa using hq)
        have HY := Lib.hid hq
        clear hq
        go_wp2_with (first | (go_at_call 60; refine (delCmp_impl _ _ _ b G _ hG1).mono ?_; rintro e w' ⟨rfl, hb'⟩; rw [HQ.out]))
        go_ret
        exact ⟨_, rfl, hb.trans (hb'.mono hb.size), .inr ⟨k, by rw [HL.out]; exact hlt, rfl, by rw [HX.out]; exact HY.out, HF.out⟩⟩
      · have HQ : Hid ((y == b) = false) := Lib.hid (by simpa using hq)
        have HF2 : Hid (∀ j, j < k + 1 → (l.getD j noV).by_ ≠ b) := Lib.hid fun j hj => by
          by_cases e : j = k
          · rw [e, HX.out]; exact hq
          · exact HF.out j (by omega)
        clear hq HF HX
        go_wp2_with (first | (go_at_call 60; refine (delCmp_impl _ _ _ b G _ hG1).mono ?_; rintro e w' ⟨rfl, hb'⟩; rw [HQ.out]))
        go_roundw
        case rel => exact ⟨k + 1, by omega, by go_num, HF2, hb.trans (hb'.mono hb.size)⟩
        case measure => simp [intOf]; omega
    · obtain rfl : k = n := by omega
      clear hc
      go_wp2
      go_ret
      exact ⟨_, rfl, hb, .inl ⟨rfl, fun x hx => by
        obtain ⟨i, hi, e⟩ := mem_getV hx
        rw [← e]; exact HF.out i (by rw [← HL.out]; exact hi)⟩⟩
theorem dropL_same {l : List Ver} {b : Int} (h : ∀ x ∈ l, x.by_ ≠ b) : dropL l b = l := by
  unfold dropL
  rw [List.filter_eq_self]
  intro x hx
  simpa using h x hx
theorem take_set_snoc (M : List Ver) (I : Nat) (x : Ver) (h : I < M.length) : (M.set I x).take (I + 1) = M.take I ++ [x] := by
  have e : (M.take I).length = I := by rw [List.length_take]; omega
  rw [List.set_eq_take_append_cons_drop, if_pos h, List.take_append, e, List.take_of_length_le (by omega), show I + 1 - I = 1 by omega]
  rfl
/-- The row without those of an action, over the same block, or nil. -/
def DelR (B : Nat) (e0 : TypeId) (v : Value) (l : List Ver) (w : World) (e : Ending) (w' : World) : Prop :=
  ∃ v', e = .returned v' ∧ w'.ownsRow B e0 3 v' l.length (flatV l) ∧ v'.ownBlock = v.ownBlock ∧ w.grownBy w' v.ownBlock
theorem dropL_take_first {l : List Ver} {b : Int} {i : Nat} (hi : i < l.length) (h1 : (l.getD i noV).by_ = b) (h2 : ∀ j, j < i → (l.getD j noV).by_ ≠ b) : dropL (l.take (i + 1)) b = l.take i := by
  rw [dropL_next l b i hi, if_neg (fun h => h h1)]
  refine dropL_same fun x hx => ?_
  obtain ⟨j, hj, e⟩ := mem_getV hx
  rw [List.length_take] at hj
  have e2 : (l.take i).getD j noV = l.getD j noV := by rw [List.getD_eq_getElem?_getD, List.getD_eq_getElem?_getD, List.getElem?_take, if_pos (by omega)]
  rw [← e, e2]; exact h2 j (by omega)
set_option maxRecDepth 100000 in
set_option maxHeartbeats 8000000 in
theorem deleteV_any (a : Option Addr) (n cap B : Nat) (l : List Ver) (b : Int) (G : Nat) (w : World) (ho : w.ownsRow B 68 3 (.slice a n cap) n (flatV l)) (hl : l.length = n) (hw : WfVs l) (hn : n ≤ 4000000) (hG : w.cell? ⟨G, 0, none⟩ = some (.int .i64 b)) (hGB : (Value.slice a n cap).ownBlock ≠ some G) :
    Calls Tryz.prog 59 #[.slice a n cap, .func (.func 60) #[] #[.pointer (some ⟨G, 0, none⟩)]] w (DelR B 68 (.slice a n cap) (dropL l b) w) := by
  have hr := rowV_owned ho hl hn hw
  have HO := Lib.hid ho
  have HL := Lib.hid hl
  have hGl : G < w.heap.size := World.block_lt_of_cell? w ⟨G, 0, none⟩ hG
  clear ho hl
  go_enter Tryz.func59, Tryz.ntmps59
  go_wp2_with fail
  refine (indexV_any a n cap l b G _ hr hn hG).mono ?_
  rintro e w1 ⟨z, rfl, hb1, hz⟩
  rcases hz with ⟨rfl, hall⟩ | ⟨i, hi, rfl, h1, h2⟩
  · have HD := Lib.hid (dropL_same hall)
    clear hall
    go_wp2
    go_ret
    refine ⟨_, rfl, ?_, rfl, Below.grownBy hb1 _⟩
    rw [HD.out, HL.out]
    exact owns_below HO.out hb1
  · rw [HL.out] at hi
    obtain ⟨g, hga, hBg⟩ : ∃ g, a = some ⟨g, 0, none⟩ ∧ B ≤ g := by
      rcases HO.out.2 with ⟨h', h0⟩ | ⟨g, cap', cur', h', hB', -⟩
      · omega
      · simp only [Value.slice.injEq] at h'
        exact ⟨g, h'.1, hB'⟩
    subst hga
    have hgG : g ≠ G := fun e => hGB (by simp [Value.ownBlock, e])
    have HM0 := Lib.hid (dropL_take_first (by rw [HL.out]; exact hi) h1 h2)
    have ho1 := owns_below HO.out hb1
    have hg1 : w.grownBy w1 (some g) := Below.grownBy hb1 _
    clear hr h1 h2 hb1
    go_wp2
    go_loopw [5, 6, 7] (fun i j _ wr => ∃ (I J : Nat) (M : List Ver), I < J ∧ J ≤ n ∧ i = .int .i64 I ∧ j = .int .i64 J ∧ M.length = n ∧ Hid (M.take I = dropL (l.take J) b) ∧ Hid (M.drop J = l.drop J) ∧ wr.ownsRow B 68 3 (.slice (some ⟨g, 0, none⟩) n cap) n (flatV M) ∧ w.grownBy wr (some g)) (fun _ j _ _ => n - (intOf j).toNat)
    case atStart => exact ⟨i, i + 1, l, by omega, by omega, by go_num, by go_num, HL.out, Lib.hid HM0.out.symm, Lib.hid rfl, ho1, hg1⟩
    case round =>
      clear ho1 hg1
      obtain ⟨I, J, M, hIJ, hJn, rfl, rfl, hMl, HT, HD, ho, hgw⟩ := hrel
      have HMl := Lib.hid hMl
      by_cases hlt : J < n
      · have hX : Hid (M.getD J noV = l.getD J noV) := Lib.hid (by
          have e := congrArg (fun L : List Ver => L.getD 0 noV) HD.out
          simpa [List.getD_eq_getElem?_getD, List.getElem?_drop] using e)
        obtain ⟨f1, f2, f3⟩ := flatV_get M J (by omega)
        have hc1 := (ho.cellAt (J * 3) (by omega)).trans f1
        have hc2 := (ho.cellAt (J * 3 + 1) (by omega)).trans f2
        have hc3 := (ho.cellAt (J * 3 + 2) (by omega)).trans f3
        have hG1 := hgw.cell hG (fun e => hgG (by cases e; rfl))
        have hN := Lib.hid (dropL_next l b J (by rw [HL.out]; exact hlt))
        have HDn : Hid (M.drop (J + 1) = l.drop (J + 1)) := Lib.hid (by
          have e := congrArg (List.drop 1) HD.out
          rwa [List.drop_drop, List.drop_drop] at e)
        obtain ⟨X, hXX⟩ : ∃ X, X = l.getD J noV := ⟨_, rfl⟩
        rw [hX.out, ← hXX] at hc1 hc2 hc3
        rw [← hXX] at hN
        clear f1 f2 f3 hX hXX hMl HD
        obtain ⟨x, y, z⟩ := X
        simp only at hc1 hc2 hc3 hN
        have hbe := (Below.refl wr.heap.size wr).alloc (Nat.le_refl _) (.cells #[.int .i64 x, .int .i64 y, .int .i64 z] 68)
        have hG2 := hgw.size
        have hG3 : G < wr.heap.size := by omega
        by_cases hq : y = b
        · have HQ : Hid ((y == b) = true) := Lib.hid (by simpa using hq)
          have HT2 : Hid (M.take I = dropL (l.take (J + 1)) b) := Lib.hid (by rw [hN.out, if_neg (fun h => h hq)]; exact HT.out)
          clear hq hN HT
          go_upto_region 8 with (fail)
          have hG4 := (hbe.cell (p := ⟨G, 0, none⟩) hG3).trans hG1
          have ho2 := owns_below ho hbe
          have hg2 := hgw.trans (Below.grownBy hbe (some g))
          clear hc1 hc2 hc3 ho hgw hG1 hbe
          go_wp2_with (first | (go_at_call 60; refine (delCmp_impl _ _ _ b G _ hG4).mono ?_; rintro e w' ⟨rfl, hb'⟩; rw [HQ.out]))
          go_roundw
          case rel =>
            refine ⟨_, _, _, _, _, _, _, _, _, _, _, _, _, _, _, _, _, _, _, _, _, _, _, ?_, rfl⟩
            exact ⟨I, J + 1, M, by omega, by omega, rfl, by go_num, HMl.out, HT2, HDn, owns_below ho2 hb', hg2.trans (Below.grownBy hb' _)⟩
          case measure => simp [intOf]; omega
        · have HQ : Hid ((y == b) = false) := Lib.hid (by simpa using hq)
          have HXL : Hid ((⟨x, y, z⟩ : Ver) = l.getD J noV → True) := Lib.hid fun _ => trivial
          have HT2 : Hid ((M.set I ⟨x, y, z⟩).take (I + 1) = dropL (l.take (J + 1)) b) := Lib.hid (by
            rw [hN.out, if_pos hq, ← HT.out, take_set_snoc _ _ _ (by rw [HMl.out]; omega)])
          have HDn2 : Hid ((M.set I ⟨x, y, z⟩).drop (J + 1) = l.drop (J + 1)) := Lib.hid (by rw [List.drop_set_of_lt (by omega)]; exact HDn.out)
          have HMl2 : Hid ((M.set I ⟨x, y, z⟩).length = n) := Lib.hid (by rw [List.length_set]; exact HMl.out)
          clear hq hN HT HDn HXL
          go_upto_region 8 with (fail)
          have hG4 := (hbe.cell (p := ⟨G, 0, none⟩) hG3).trans hG1
          have ho2 := owns_below ho hbe
          have hg2 := hgw.trans (Below.grownBy hbe (some g))
          have m1 : (wr.alloc (.cells #[.int .i64 x, .int .i64 y, .int .i64 z] 68)).cell? ⟨wr.heap.size, 0, none⟩ = some (.int .i64 x) := by simp [go_sem]
          have m2 : (wr.alloc (.cells #[.int .i64 x, .int .i64 y, .int .i64 z] 68)).cell? ⟨wr.heap.size, 1, none⟩ = some (.int .i64 y) := by simp [go_sem]
          have m3 : (wr.alloc (.cells #[.int .i64 x, .int .i64 y, .int .i64 z] 68)).cell? ⟨wr.heap.size, 2, none⟩ = some (.int .i64 z) := by simp [go_sem]
          have hE1 : wr.heap.size < (wr.alloc (.cells #[.int .i64 x, .int .i64 y, .int .i64 z] 68)).heap.size := by simp
          have hgE : g ≠ wr.heap.size := fun e => by have := (ho.lt g (by simp [Value.ownBlock])).2; omega
          clear hc1 hc2 hc3 ho hgw hG1 hbe
          obtain ⟨E, hE⟩ : ∃ E, E = wr.heap.size := ⟨_, rfl⟩
          rw [← hE] at m1 m2 m3 hE1 hgE ⊢
          obtain ⟨w2, hw2⟩ : ∃ w2, w2 = wr.alloc (.cells #[.int .i64 x, .int .i64 y, .int .i64 z] 68) := ⟨_, rfl⟩
          rw [← hw2] at m1 m2 m3 hE1 hG4 ho2 hg2 ⊢
          clear hw2 hE hG2 hG3
          go_upto_region 9 with (first | (go_at_call 60; refine (delCmp_impl _ _ _ b G _ hG4).mono ?_; rintro e w3 ⟨rfl, hb'⟩; rw [HQ.out]))
          have k1 := below_clV hb' hE1 m1
          have k2 := below_clV hb' hE1 m2
          have k3 := below_clV hb' hE1 m3
          have ho3 := owns_below ho2 hb'
          have hg3 := hg2.trans (Below.grownBy hb' (some g))
          obtain ⟨cur, -, hgc, -⟩ := owns_cur ho3
          have hf1 := frozen_of_row w3 g (I * 3) cur _ hgc
          have hf2 := frozen_of_row w3 g (I * 3 + 1) cur _ hgc
          have hf3 := frozen_of_row w3 g (I * 3 + 2) cur _ hgc
          obtain ⟨f1, f2, f3⟩ := flatV_get M I (by rw [HMl.out]; omega)
          have hd1 := (ho3.cellAt (I * 3) (by omega)).trans f1
          have hd2 := (ho3.cellAt (I * 3 + 1) (by omega)).trans f2
          have hd3 := (ho3.cellAt (I * 3 + 2) (by omega)).trans f3
          have HSET := Lib.hid (owns_setV ho3 HMl.out I (by omega) ⟨x, y, z⟩)
          have HG3 := Lib.hid hg3
          have q1 : (0 : Int) ≤ (I : Int) := by omega
          have q2 : (I : Int) < (n : Int) := by omega
          clear hb' m1 m2 m3 ho2 hg2 hG4 f1 f2 f3 hgc ho3 hg3
          go_wp2
          obtain ⟨s1, s2⟩ := HSET.out
          have s3 := HG3.out.trans s2
          obtain ⟨w4, hw4⟩ : ∃ w4, w4 = ((w3.setCell ⟨g, I * 3, none⟩ (.int .i64 x)).setCell ⟨g, I * 3 + 1, none⟩ (.int .i64 y)).setCell ⟨g, I * 3 + 2, none⟩ (.int .i64 z) := ⟨_, rfl⟩
          rw [← hw4] at s1 s3 ⊢
          clear hw4 s2 HSET HG3 hd1 hd2 hd3 hf1 hf2 hf3 k1 k2 k3
          go_roundw
          case rel =>
            exact ⟨I + 1, J + 1, by omega, by omega, by omega, by omega, M.set I ⟨x, y, z⟩, HMl2.out, HT2, HDn2, s1, s3⟩
          case measure => simp [intOf]; omega
      · obtain rfl : J = n := by omega
        obtain ⟨cur, -, hgc, hncap, hcap, hcs, htk⟩ := owns_cur ho
        obtain ⟨i0, hi0, hz0, hz1, hz2⟩ := info_parts infoVerD
        have hzs : ∀ m, (Builtin.zeroCells (Value.agg #[.int .i64 0, .int .i64 0, .int .i64 0]).cells m).toList.length = m * 3 := fun m => by rw [Array.length_toList, size_zeroCells]; rfl
        have hcl : ∀ ty, (Builtin.clear_ #[35] ty #[.slice (some ⟨g, I * 3, none⟩) (J - I) (cap - I)]).run Tryz.prog wr = .ok (.tuple #[]) (wr.setRow g (splice cur (I * 3) (Builtin.zeroCells (Value.agg #[.int .i64 0, .int .i64 0, .int .i64 0]).cells (J - I)).toList)) :=
          fun ty => run_clear_row wr 35 68 ty i0 _ Tryz.underlying35 hi0 hz0 g (I * 3) (J - I) (cap - I) cur _ hgc (by omega) (by show I * 3 + (J - I) * 3 ≤ cur.size; omega) (fun v hv => by
            obtain ⟨q, hq, rfl⟩ := Array.mem_map.1 hv
            have : q % 3 = 0 ∨ q % 3 = 1 ∨ q % 3 = 2 := by omega
            show ((#[Value.int .i64 0, .int .i64 0, .int .i64 0] : Array Value)[q % 3]!).oneCell' = true
            rcases this with e | e | e <;> rw [e] <;> rfl)
        have hfin : (wr.setRow g (splice cur (I * 3) (Builtin.zeroCells (Value.agg #[.int .i64 0, .int .i64 0, .int .i64 0]).cells (J - I)).toList)).ownsRow B 68 3 (.slice (some ⟨g, 0, none⟩) I cap) I (flatV (M.take I)) := by
          refine ⟨by rw [flatV_len, List.length_take]; congr 1; omega, .inr ⟨g, cap, _, rfl, hBg, setRow_heap wr g cur _ _ _ hgc, by omega, hcap, ?_, ?_⟩⟩
          · rw [splice_size _ _ _ (by rw [hzs]; omega)]; exact hcs
          · rw [splice_take _ _ _ _ (Nat.le_refl _) (by omega), ← flatV_takeR, ← htk, List.take_take, Nat.min_eq_left (by omega)]
        have HFIN := Lib.hid hfin
        have HG5 := Lib.hid (hgw.trans (setRow_grown wr g (splice cur (I * 3) (Builtin.zeroCells (Value.agg #[.int .i64 0, .int .i64 0, .int .i64 0]).cells (J - I)).toList)))
        have HLEN : Hid ((dropL l b).length = I) := Lib.hid (by
          have e := HT.out
          rw [show l.take J = l from List.take_of_length_le (by rw [HL.out]; exact Nat.le_refl _)] at e
          rw [← e, List.length_take]; omega)
        have HTT : Hid (M.take I = dropL l b) := Lib.hid (by
          have e := HT.out
          rwa [show l.take J = l from List.take_of_length_le (by rw [HL.out]; exact Nat.le_refl _)] at e)
        have q1 : (0 : Int) ≤ (I : Int) := by omega
        have q2 : (I : Int) ≤ (J : Int) := by omega
        have q3 : ¬ (cap = I) := by omega
        have q4 : (I : Int) ≤ (cap : Int) := by omega
        obtain ⟨ROW, hROW⟩ : ∃ ROW, ROW = splice cur (I * 3) (Builtin.zeroCells (Value.agg #[.int .i64 0, .int .i64 0, .int .i64 0]).cells (J - I)).toList := ⟨_, rfl⟩
        rw [← hROW] at hcl HFIN HG5
        clear hROW hfin hgc hncap hcap hcs htk hi0 hz0 hz1 hz2 hzs HT HD ho hgw
        go_wp2
        go_ret
        exact ⟨_, rfl, by rw [HLEN.out, ← HTT.out]; exact HFIN.out, rfl, HG5.out⟩
/-- Those of an action are dropped from the lists of the first i keys. -/
def dropTo (F : Nat → List Ver) (b : Int) (i : Nat) : Nat → List Ver := fun j => if j < i then dropL (F j) b else F j
/-- What a change of an array of lists answers: nothing; the lists are F; only blocks from B on have turned. -/
def KeysW (B g : Nat) (F : Nat → List Ver) (w : World) (e : Ending) (w' : World) : Prop :=
  e = .returned (.tuple #[]) ∧ KV w' B g 61 68 F ∧ Below B w w'
theorem slice_formV {w : World} {B : Nat} {e : TypeId} {size n : Nat} {v : Value} {xs : List Value} (h : w.ownsRow B e size v n xs) : ∃ a m c, v = .slice a m c := by
  rcases h.2 with ⟨rfl, _⟩ | ⟨g, cap, cur, rfl, _⟩
  · exact ⟨_, _, _, rfl⟩
  · exact ⟨_, _, _, rfl⟩
/-- The array while the lists are written: the slices' blocks are neither its own block nor G. -/
def KVG (w : World) (B g G : Nat) (vs : List Value) (F : Nat → List Ver) : Prop :=
  ArrV w g 61 vs ∧ KVs w B 68 vs F ∧ ∀ k, k < 32 → (vs.getD k undef).ownBlock ≠ some g ∧ (vs.getD k undef).ownBlock ≠ some G
theorem KVG.store {w w' : World} {B g G : Nat} {vs : List Value} {F : Nat → List Ver} (h : KVG w B g G vs F) {k : Nat} (hk : k < 32) {v' : Value} {l : List Ver} (ho : w'.ownsRow B 68 3 v' l.length (flatV l)) (hg : w.grownBy w' (vs.getD k undef).ownBlock) (hloc : v'.ownBlock = (vs.getD k undef).ownBlock) :
    KVG (w'.setCell ⟨g, k, none⟩ v') B g G (vs.set k v') (fun j => if j = k then l else F j) := by
  obtain ⟨h1, h2, h3⟩ := h
  have hkl : k < vs.length := by rw [h2.len]; exact hk
  have hs : ∀ j, ((vs.set k v').getD j undef).ownBlock = (vs.getD j undef).ownBlock := fun j => by
    by_cases e : j = k
    · subst e
      rw [List.getD_eq_getElem?_getD, List.getElem?_set_self hkl]; exact hloc
    · rw [List.getD_eq_getElem?_getD, List.getElem?_set_ne (Ne.symm e), ← List.getD_eq_getElem?_getD]
  have hA := h1.grown hg fun e => (h3 k hk).1 e.symm
  refine ⟨hA.set k v', (h2.put hk ho hg (.inl hloc)).keep fun j hj b hb => Below.heap_setCell _ _ _ _ fun e => ?_, fun j hj => by rw [hs j]; exact h3 j hj⟩
  rw [hs j] at hb
  exact (h3 j hj).1 (by rw [hb]; simp at e; rw [e])
set_option maxRecDepth 100000 in
set_option maxHeartbeats 8000000 in
theorem drop_impl (g B : Nat) (F : Nat → List Ver) (b : Int) (w : World) (h : KV w B g 61 68 F) (hK : KOk F) (hBg : B ≤ g) :
    Calls Tryz.prog 32 #[.pointer (some ⟨g, 0, none⟩), .int .i64 b] w (KeysW B g (fun k => dropL (F k) b) w) := by
  have HK := Lib.hid hK; clear hK
  have hgl := h.lt
  have hBw : B ≤ w.heap.size := by omega
  have hb1 := (Below.refl w.heap.size w).alloc (Nat.le_refl _) (.cells #[.int .i64 b] 3)
  have hG1 : (w.alloc (.cells #[.int .i64 b] 3)).cell? ⟨w.heap.size, 0, none⟩ = some (.int .i64 b) := by simp [go_sem]
  have hB1 := (Below.refl B w).alloc hBw (.cells #[.int .i64 b] 3)
  have hgG : g ≠ w.heap.size := by omega
  obtain ⟨vs0, hv1, hv2, hv3⟩ := h
  have hk1 : KVG (w.alloc (.cells #[.int .i64 b] 3)) B g w.heap.size vs0 (dropTo F b 0) := ⟨hv1.after hb1, (hv2.below hb1).congr fun j _ => by unfold dropTo; rw [if_neg (Nat.not_lt_zero j)], fun k hk => ⟨hv3 k hk, fun e => by have := (hv2.lt hk e).2; omega⟩⟩
  clear hv1 hv2 hv3
  obtain ⟨G, hGG⟩ : ∃ G, G = w.heap.size := ⟨_, rfl⟩
  go_enter Tryz.func32, Tryz.ntmps32
  go_wp2
  rw [← hGG] at hG1 hgG hk1 ⊢
  clear hb1 hGG
  go_loopw [4, 5, 8] (fun _ _ i wr => ∃ (k : Nat) (vs : List Value), k ≤ 32 ∧ i = .int .i64 k ∧ KVG wr B g G vs (dropTo F b k) ∧ wr.cell? ⟨G, 0, none⟩ = some (.int .i64 b) ∧ Below B w wr) (fun _ _ i _ => 32 - (intOf i).toNat)
  case atStart => exact ⟨0, vs0, by omega, rfl, hk1, hG1, hB1⟩
  case round =>
    clear hG1 hB1 hk1
    obtain ⟨k, vs, hk, rfl, hV, hG, hB⟩ := hrel
    by_cases hlt : k < 32
    · have hFk : dropTo F b k k = F k := by unfold dropTo; rw [if_neg (Nat.lt_irrefl k)]
      have hown := hV.2.1.own k hlt
      rw [hFk] at hown
      have hlen := catK_len HK.out hlt
      obtain ⟨sa, sc, hvk, hrow, hz, -⟩ := rowV_of_owns hown (by omega) (HK.out.wf hlt)
      have hcell := hV.1.cell k (by rw [hV.2.1.len]; exact hlt)
      have hfro := hV.1.frozen k
      have hneG := (hV.2.2 k hlt).2
      have hneg := (hV.2.2 k hlt).1
      rw [hvk] at hcell hown hneG hneg
      have hgs := hV.1.lt
      have HFIN : Hid (∀ (v' : Value) (w' : World), w'.ownsRow B 68 3 v' (dropL (F k) b).length (flatV (dropL (F k) b)) → v'.ownBlock = (Value.slice sa (F k).length sc).ownBlock → wr.grownBy w' (Value.slice sa (F k).length sc).ownBlock →
          KVG (w'.setCell ⟨g, k, none⟩ v') B g G (vs.set k v') (dropTo F b (k + 1)) ∧ (w'.setCell ⟨g, k, none⟩ v').cell? ⟨G, 0, none⟩ = some (.int .i64 b) ∧ Below B w (w'.setCell ⟨g, k, none⟩ v')) := Lib.hid fun v' w' ho hloc hg => by
        refine ⟨?_, ?_, (hB.grown hg (Nat.le_trans hBw hB.size) fun q hq => (hown.lt q hq).1).setCell hBg v'⟩
        · have hst := hV.store hlt ho (by rw [hvk]; exact hg) (by rw [hvk]; exact hloc)
          refine ⟨hst.1, hst.2.1.congr fun j hj => ?_, hst.2.2⟩
          unfold dropTo
          by_cases e : j = k
          · subst e; rw [if_pos rfl, if_pos (Nat.lt_succ_self j)]
          · rw [if_neg e]
            by_cases e2 : j < k
            · rw [if_pos e2, if_pos (by omega)]
            · rw [if_neg e2, if_neg (by omega)]
        · refine (World.cell?_of_block (Below.heap_setCell _ _ _ _ (by simpa using hgG.symm))).trans (hg.cell hG fun e => hneG e.symm)
      have q1 : (0 : Int) ≤ (k : Int) := by omega
      have q2 : (k : Int) < 32 := by omega
      obtain ⟨l, hl⟩ : ∃ l, l = F k := ⟨_, rfl⟩
      rw [← hl] at hown hrow hneG hneg hcell HFIN hlen
      have HW := Lib.hid (HK.out.wf hlt)
      rw [← hl] at HW
      obtain ⟨n, hn⟩ : ∃ n, n = l.length := ⟨_, rfl⟩
      rw [← hn] at hown hrow hneG hneg hcell HFIN hlen
      have HN := Lib.hid hn.symm
      have hA := hV.1
      have HVL : Hid (k < vs.length) := Lib.hid (by rw [hV.2.1.len]; exact hlt)
      have hGl : G < wr.heap.size := World.block_lt_of_cell? wr ⟨G, 0, none⟩ hG
      clear hl hn hFk hvk hz hrow hV
      go_upto_region 3 with (fail)
      go_quiet (fail)
      go_upto_region 4 with (fail)
      have hd := below_drewN' (Below.refl wr.heap.size wr) nq
      have hown2 := owns_below hown hd
      have hA2 := hA.after hd
      have hG2 := (hd.cell (p := ⟨G, 0, none⟩) hGl).trans hG
      obtain ⟨w2, hw2⟩ : ∃ w2, w2 = wr.drewN nq := ⟨_, rfl⟩
      rw [← hw2] at hd hown2 hA2 hG2 ⊢
      have HDG := Lib.hid (Below.grownBy hd (Value.slice sa n sc).ownBlock)
      clear hw2 hown hA hG hcell hfro hd
      go_region_law (first | (go_simp; go_at_call 59; refine (deleteV_any sa n sc B l b G _ (by exact hown2) HN.out HW.out (by omega) (by exact hG2) hneG).mono ?_; rintro e w3 ⟨v', rfl, ho', hloc', hg'⟩; obtain ⟨pa, pn, pc, rfl⟩ := slice_formV ho'; have hg3 : w2.grownBy w3 (Value.slice sa n sc).ownBlock := (by first | exact hg' | exact (Below.grownBy ((Below.refl w2.heap.size w2).drew) _).trans hg'); have hA3 := hA2.grown hg3 (fun e => hneg e.symm); have hc5 := hA3.cell k HVL.out; have hf5 := hA3.frozen k; have ho5 := owns_one ho'))
      all_goals
        obtain ⟨r1, r2, r3⟩ := HFIN.out _ w3 ho' hloc' (HDG.out.trans hg3)
        obtain ⟨w6, hw6⟩ : ∃ w6, w6 = w3.setCell ⟨g, k, none⟩ (.slice pa pn pc) := ⟨_, rfl⟩
        rw [← hw6] at r1 r2 r3 ⊢
        clear hw6 ho' hloc' hg3 hg' hA3 hc5 hf5 ho5 hown2 hA2 hG2 HFIN
        go_wp2
        go_roundw
        case rel => exact ⟨k + 1, _, by omega, by go_num, r1, r2, r3⟩
        case measure => simp [intOf]; omega
    · obtain rfl : k = 32 := by omega
      go_wp2
      refine bodyPost_ret (v := .tuple #[]) ?_ rfl ⟨rfl, ⟨vs, hV.1, hV.2.1.congr fun j hj => by unfold dropTo; rw [if_pos hj], fun j hj => (hV.2.2 j hj).1⟩, hB⟩
      simp [results, Tryz.results32]
end Go.Proofs.YtncedcliklpapaaGreat

/- The contract of the program's keyVersions.put. -/
import Derived.Test.YtncedcliklpapaaGreatKeyIns
import Derived.BigQuiet
import Derived.Deep.RegionLaw
namespace Go.Proofs.YtncedcliklpapaaGreat
open Go.RowKit
set_option linter.unusedVariables false
set_option maxRecDepth 100000 in
set_option maxHeartbeats 8000000 in
theorem put_impl (g B k : Nat) (F : Nat → List Ver) (v : Ver) (w : World) (h : KV w B g 61 68 F) (hK : KOk F) (hBg : B ≤ g) (hk : k < 32) (hvk : v.key = (k : Int)) :
    Calls Tryz.prog 33 #[.pointer (some ⟨g, 0, none⟩), .agg #[.int .i64 v.key, .int .i64 v.by_, .int .i64 v.val]] w (KeysW B g (insK F k v) w) := by
  have HCUT := Lib.hid (fun c (hc : CutB (F k) v.by_ c) => insV_cut hK hk hvk hc)
  have hgl := h.lt
  have hBw : B ≤ w.heap.size := by omega
  have hb1 := (Below.refl w.heap.size w).alloc (Nat.le_refl _) (.cells #[.int .i64 v.key, .int .i64 v.by_, .int .i64 v.val] 68)
  obtain ⟨vs, hv1, hv2, hv3⟩ := h
  have hown := hv2.own k hk
  have hlen := catK_len hK hk
  obtain ⟨sa, sc, hvs, hrow, hz, -⟩ := hv2.row hK hk
  have HS := Lib.hid (hK k hk).2
  have hneg := hv3 k hk
  rw [hvs] at hown hneg
  have HVL : Hid (k < vs.length) := Lib.hid (by rw [hv2.len]; exact hk)
  have HFIN : Hid (∀ (c : Nat) (v' : Value) (w' : World), CutB (F k) v.by_ c → w'.ownsRow B 68 3 v' ((F k).take c ++ v :: (F k).drop c).length (flatV ((F k).take c ++ v :: (F k).drop c)) → w.grownBy w' (Value.slice sa (F k).length sc).ownBlock → (v'.ownBlock = (Value.slice sa (F k).length sc).ownBlock ∨ ∀ b, v'.ownBlock = some b → w.heap.size ≤ b) →
      KeysW B g (insK F k v) w (.returned (.tuple #[])) (w'.setCell ⟨g, k, none⟩ v')) := Lib.hid fun c v' w' hc ho hg hloc => by
    have hs := KV.store (T := 61) hv1 hv2 hv3 hk ho (by rw [hvs]; exact hg) (by rw [hvs]; exact hloc)
    refine ⟨rfl, hs.congr fun j hj => ?_, ((Below.refl B w).grown hg hBw fun q hq => (hown.lt q hq).1).setCell hBg v'⟩
    by_cases e : j = k
    · subst e; rw [if_pos rfl, insK_at, HCUT.out c hc]
    · rw [if_neg e, insK_ne F v e]
  have hA1 := hv1.after hb1
  have hown1 := owns_below hown hb1
  have hrow1 := hrow.below hb1
  have hcell1 := hA1.cell k HVL.out
  rw [hvs] at hcell1
  obtain ⟨x, y, z⟩ := v
  simp only at hvk hb1 HFIN HCUT hA1 hown1 hrow1 hcell1
  subst hvk
  have m1 : (w.alloc (.cells #[.int .i64 (k : Int), .int .i64 y, .int .i64 z] 68)).cell? ⟨w.heap.size, 0, none⟩ = some (.int .i64 (k : Int)) := by simp [go_sem]
  have m2 : (w.alloc (.cells #[.int .i64 (k : Int), .int .i64 y, .int .i64 z] 68)).cell? ⟨w.heap.size, 1, none⟩ = some (.int .i64 y) := by simp [go_sem]
  have m3 : (w.alloc (.cells #[.int .i64 (k : Int), .int .i64 y, .int .i64 z] 68)).cell? ⟨w.heap.size, 2, none⟩ = some (.int .i64 z) := by simp [go_sem]
  have hE1 : w.heap.size < (w.alloc (.cells #[.int .i64 (k : Int), .int .i64 y, .int .i64 z] 68)).heap.size := by simp
  have hsz : (w.alloc (.cells #[.int .i64 (k : Int), .int .i64 y, .int .i64 z] 68)).heap.size = w.heap.size + 1 := by simp
  obtain ⟨l, hl⟩ : ∃ l, l = F k := ⟨_, rfl⟩
  rw [← hl] at hown1 hrow1 hlen HS HFIN hneg hcell1
  have hlt0 : ∀ b, (Value.slice sa l.length sc).ownBlock = some b → b < w.heap.size := fun b hb => (hown.lt b (by rw [← hl]; exact hb)).2
  clear hown hrow hz hvs hv1 hv2 hv3 hl HCUT hK
  obtain ⟨n, hn⟩ : ∃ n, n = l.length := ⟨_, rfl⟩
  rw [← hn] at hown1 hrow1 hlen HFIN hneg hlt0 hcell1
  have HN := Lib.hid hn.symm
  clear hn
  have q1 : (0 : Int) ≤ (k : Int) := by omega
  have q2 : (k : Int) < 32 := by omega
  go_enter Tryz.func33, Tryz.ntmps33
  go_upto_region 1 with (fail)
  go_quiet (fail)
  go_upto_region 2 with (fail)
  have hd := below_drewN' (Below.refl (w.alloc (.cells #[.int .i64 (k : Int), .int .i64 y, .int .i64 z] 68)).heap.size (w.alloc (.cells #[.int .i64 (k : Int), .int .i64 y, .int .i64 z] 68))) nq
  have hb2 := hb1.trans (hd.mono hb1.size)
  have n1 := below_clV hd hE1 m1
  have n2 := below_clV hd hE1 m2
  have n3 := below_clV hd hE1 m3
  have hA2 := hA1.after hd
  have hown2 := owns_below hown1 hd
  have hrow2 := hrow1.below hd
  obtain ⟨w2, hw2⟩ : ∃ w2, w2 = (w.alloc (.cells #[.int .i64 (k : Int), .int .i64 y, .int .i64 z] 68)).drewN nq := ⟨_, rfl⟩
  rw [← hw2] at hb2 n1 n2 n3 hA2 hown2 hrow2 ⊢
  have hE2 : w.heap.size < w2.heap.size := by have := hd.size; rw [← hw2] at this; omega
  obtain ⟨E, hE⟩ : ∃ E, E = w.heap.size := ⟨_, rfl⟩
  rw [← hE] at n1 n2 n3 hE2 hlt0 ⊢
  have HB2 := Lib.hid hb2
  have hgE : g < E := by omega
  have hBE : B ≤ E := by omega
  have HE := Lib.hid hE
  clear hw2 hd hb1 m1 m2 m3 hE1 hsz hA1 hown1 hrow1 hcell1 hE hb2 hgl hBw
  have HST : Hid (∀ W, Below w2.heap.size w2 W → W.cell? ⟨E, 0, none⟩ = some (.int .i64 (k : Int)) ∧ W.cell? ⟨E, 1, none⟩ = some (.int .i64 y) ∧ W.cell? ⟨E, 2, none⟩ = some (.int .i64 z) ∧ RowV W sa n l ∧ W.ownsRow B 68 3 (.slice sa n sc) n (flatV l) ∧ ArrV W g 61 vs) :=
    Lib.hid fun W hb => ⟨below_clV hb hE2 n1, below_clV hb hE2 n2, below_clV hb hE2 n3, hrow2.below hb, owns_below hown2 hb, hA2.after hb⟩
  have hbl := (Below.refl w2.heap.size w2).alloc (Nat.le_refl _) (.cells #[.int .i64 (k : Int), .int .i64 y, .int .i64 z] 68)
  have hbd : Below w2.heap.size w2 (w2.alloc (.cells #[.int .i64 (k : Int), .int .i64 y, .int .i64 z] 68)).drew := hbl.drew
  have a1 : ∀ o, (w2.alloc o).cell? ⟨E, 0, none⟩ = some (.int .i64 (k : Int)) := fun o => (HST.out _ ((Below.refl w2.heap.size w2).alloc (Nat.le_refl _) o)).1
  have a2 : ∀ o, (w2.alloc o).cell? ⟨E, 1, none⟩ = some (.int .i64 y) := fun o => (HST.out _ ((Below.refl w2.heap.size w2).alloc (Nat.le_refl _) o)).2.1
  have hrowD : RowV w2.drew sa n l := hrow2
  have hrowA : RowV (w2.alloc (.cells #[.int .i64 (k : Int), .int .i64 y, .int .i64 z] 68)).drew sa n l := (HST.out _ hbd).2.2.2.1
  have hBw2 : B ≤ w2.heap.size := by omega
  have hn4 : n ≤ 4000000 := by omega
  have hsz2 : (w2.alloc (.cells #[.int .i64 (k : Int), .int .i64 y, .int .i64 z] 68)).heap.size = w2.heap.size + 1 := by simp
  have HLIT : Hid (∀ W : World, Below (w2.heap.size + 1) (w2.alloc (.cells #[.int .i64 (k : Int), .int .i64 y, .int .i64 z] 68)).drew W → W.heap[w2.heap.size]? = some (.cells #[.int .i64 (k : Int), .int .i64 y, .int .i64 z] 68)) := Lib.hid fun W hb => (hb.block w2.heap.size (Nat.lt_succ_self _)).trans (heap_alloc_new w2 _)
  go_region_law (first
    | (go_simp; go_at_call 62; (with_reducible refine (countBefore_impl sa n sc l y w2.drew hrowD (by omega) HS.out).mono ?_); rintro e w3 ⟨c, rfl, hc, hb'⟩; have hb3 : Below w2.heap.size w2 w3 := (Below.refl _ w2).drew.trans hb'; obtain ⟨p1, p2, p3, p4, p5, p6⟩ := HST.out w3 hb3; have hcl : c ≤ n := Nat.le_trans hc.1 (Nat.le_of_eq HN.out); have hB3 : B ≤ w3.heap.size := Nat.le_trans hBw2 hb3.size; have hbA := (Below.refl w3.heap.size w3).alloc (Nat.le_refl _) (.cells #[.int .i64 (k : Int), .int .i64 y, .int .i64 z] 68); have pa1 : ∀ o, (w3.alloc o).cell? ⟨E, 0, none⟩ = some (.int .i64 (k : Int)) := fun o => below_clV ((Below.refl w3.heap.size w3).alloc (Nat.le_refl _) o) (Nat.lt_of_lt_of_le hE2 hb3.size) p1; have pa2 : ∀ o, (w3.alloc o).cell? ⟨E, 1, none⟩ = some (.int .i64 y) := fun o => below_clV ((Below.refl w3.heap.size w3).alloc (Nat.le_refl _) o) (Nat.lt_of_lt_of_le hE2 hb3.size) p2; have HIC := Lib.hid (insertV_any sa n sc B c l ⟨k, y, z⟩ w3.heap.size (w3.alloc (.cells #[.int .i64 (k : Int), .int .i64 y, .int .i64 z] 68)) (owns_below p5 hbA) HN.out hn4 (heap_alloc_new w3 _) (fun e => Nat.lt_irrefl _ (p5.lt _ e).2) hcl (Nat.le_trans hB3 hbA.size)); have HGG : Hid (∀ W row, (w3.alloc (.cells #[.int .i64 (k : Int), .int .i64 y, .int .i64 z] 68)).grownBy W row → w3.grownBy W row) := Lib.hid (fun W row h => (World.grownBy_alloc w3 (.cells #[.int .i64 (k : Int), .int .i64 y, .int .i64 z] 68) row).trans h); have HSZ : Hid (w3.heap.size ≤ (w3.alloc (.cells #[.int .i64 (k : Int), .int .i64 y, .int .i64 z] 68)).heap.size) := Lib.hid hbA.size)
    | (go_simp; go_at_call 62; (with_reducible refine (countBefore_impl sa n sc l y (w2.alloc (.cells #[.int .i64 (k : Int), .int .i64 y, .int .i64 z] 68)).drew hrowA (by omega) HS.out).mono ?_); rintro e w3 ⟨c, rfl, hc, hb'⟩; have hvB := HLIT.out w3 (hb'.mono (Nat.le_of_eq hsz2.symm)); have hb3 : Below w2.heap.size w2 w3 := hbd.trans (hb'.mono hbl.size); obtain ⟨p1, p2, p3, p4, p5, p6⟩ := HST.out w3 hb3; have hcl : c ≤ n := Nat.le_trans hc.1 (Nat.le_of_eq HN.out); have hB3 : B ≤ w3.heap.size := Nat.le_trans hBw2 hb3.size; have hbA := (Below.refl w3.heap.size w3).alloc (Nat.le_refl _) (.cells #[.int .i64 (k : Int), .int .i64 y, .int .i64 z] 68); have pa1 : ∀ o, (w3.alloc o).cell? ⟨E, 0, none⟩ = some (.int .i64 (k : Int)) := fun o => below_clV ((Below.refl w3.heap.size w3).alloc (Nat.le_refl _) o) (Nat.lt_of_lt_of_le hE2 hb3.size) p1; have pa2 : ∀ o, (w3.alloc o).cell? ⟨E, 1, none⟩ = some (.int .i64 y) := fun o => below_clV ((Below.refl w3.heap.size w3).alloc (Nat.le_refl _) o) (Nat.lt_of_lt_of_le hE2 hb3.size) p2; have HIC := Lib.hid (insertV_any sa n sc B c l ⟨k, y, z⟩ w2.heap.size w3 p5 HN.out hn4 hvB (fun e => Nat.lt_irrefl _ (hown2.lt _ e).2) hcl hB3); have HGG : Hid (∀ W row, w3.grownBy W row → w3.grownBy W row) := Lib.hid (fun W row h => h); have HSZ : Hid (w3.heap.size ≤ w3.heap.size) := Lib.hid (Nat.le_refl _))
    | (go_simp; go_at_call 61; (with_reducible refine HIC.out.mono ?_); rintro e w5 ⟨v', rfl, ho', hg', hloc'⟩; obtain ⟨pa, pn, pc, rfl⟩ := slice_formV ho'; have hgg : w3.grownBy w5 (Value.slice sa n sc).ownBlock := HGG.out _ _ hg'; have hA5 := p6.grown hgg (fun e => hneg e.symm); have hc5 := hA5.cell k HVL.out; have hf5 := hA5.frozen k; have he5 : w5.cell? ⟨E, 0, none⟩ = some (.int .i64 (k : Int)) := hgg.cell p1 (fun e => Nat.lt_irrefl _ (hlt0 E e.symm)); have hl5 : ∀ b, (Value.slice pa pn pc).ownBlock = some b → (Value.slice pa pn pc).ownBlock = (Value.slice sa n sc).ownBlock ∨ w3.heap.size ≤ b := fun b hb => hloc'.elim Or.inl (fun h => Or.inr (Nat.le_trans HSZ.out (h b hb)))))
  all_goals
    have HF := HFIN.out c (.slice pa pn pc) w5 hc ho' ((Below.grownBy HB2.out _).trans ((Below.grownBy hb3 _).trans hgg)) (by
      by_cases e : (Value.slice pa pn pc).ownBlock = (Value.slice sa n sc).ownBlock
      · exact .inl e
      · refine .inr fun b hb => ?_
        rcases hl5 b hb with h | h
        · exact absurd h e
        · have := HB2.out.size
          have := hb3.size
          omega)
    have HFF := Lib.hid HF
    clear HF hl5 he5 hf5 hc5 hA5 hgg hloc' hg' ho' HFIN
    go_wp2
    refine bodyPost_ret (v := .tuple #[]) ?_ rfl HFF.out
    simp [results, Tryz.results33]
end Go.Proofs.YtncedcliklpapaaGreat

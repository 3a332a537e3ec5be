/- The contract of the program's versionsPerKey. -/
import Derived.Test.YtncedcliklpapaaGreatKeyMem
import Derived.Test.YtncedcliklpapaaGreatVerBase
import Derived.Test.YtncedcliklpapaaGreatEffA
import Derived.Deep.RegionLaw
import Derived.Deep.Cut
namespace Go.Proofs.YtncedcliklpapaaGreat
open Go.RowKit
set_option linter.unusedVariables false
theorem infoVerP : (Tryz.prog.info? 68).map (fun i => (i.zero, i.size, i.bytes)) = some (some (.agg #[.int .i64 0, .int .i64 0, .int .i64 0]), 3, 24) := by kernel_rfl
theorem infoKeys : (Tryz.prog.info? 61).map (·.size) = some 32 := by kernel_rfl
/-- The lists of the keys: none for versions that are not valid. -/
def perK (L : List Ver) : Nat → List Ver := if versB L then ofK L else fun _ => []
/-- An array of slices, each over a row of its own, and a truth value. -/
def KeysR (L : List Ver) (w : World) (e : Ending) (w' : World) : Prop :=
  ∃ vs, e = .returned (.tuple #[.agg vs.toArray, .bool (versB L)]) ∧ KVs w' w.heap.size 68 vs (perK L) ∧ Below w.heap.size w w'
set_option maxRecDepth 100000 in
set_option maxHeartbeats 4000000 in
theorem perKey_no (a : Option Addr) (n cap : Nat) (L : List Ver) (w : World) (h : RowV w a n L) (hs : versB L = false) :
    Calls Tryz.prog 29 #[.slice a n cap] w (KeysR L w) := by
  have HR := Lib.hid h; clear h
  have HS := Lib.hid hs; clear hs
  go_enter Tryz.func29, Tryz.ntmps29
  go_wp2_with fail
  refine (versionsValid_impl a n cap L _ (HR.out.below (((Below.refl _ _).alloc (Nat.le_refl _) _).alloc (by simp) _))).mono ?_; rintro e w1 ⟨rfl, hb⟩
  rw [HS.out]
  have hA0 : ArrV w1 w.heap.size 61 nils := (((ArrV.new w 61 nils).alloc _).after hb)
  have hA1 : ArrV w1 (w.heap.size + 1) 61 nils := by
    have := (ArrV.new (w.alloc (.cells nils.toArray 61)) 61 nils).after hb
    simpa using this
  have hB : Below w.heap.size w w1 := (((Below.refl _ _).alloc (Nat.le_refl _) _).alloc (by simp) _).trans (hb.mono (by simp; omega))
  clear hb
  go_wp2_with (first | (refine wpList_load_arrV rfl _ _ rfl _ (by rfl) 61 nils hA1 _ _ Tryz.underlying61 infoKeys ?_) | (refine wpList_store_arrV rfl _ _ _ rfl _ nils (by rfl) (by rfl) 61 _ hA0 infoKeys rfl nils_one ?_; intro w2 hA2 hg2 hz2))
  refine bodyPost_ret (results_arrV_slot Tryz.results29 _ (by rfl) (.bool false) (by rfl) hA2 _ _ Tryz.underlying61 infoKeys) rfl ⟨nils, by rw [HS.out], ?_, ?_⟩
  · have e : perK L = fun _ => [] := by unfold perK; rw [if_neg (by rw [HS.out]; exact Bool.false_ne_true)]
    rw [e]; exact KVs.nils _ _ _
  · exact hB.grown hg2 hB.size fun k hk => by cases hk; exact Nat.le_refl _
set_option maxRecDepth 100000 in
set_option maxHeartbeats 8000000 in
theorem perKey_yes (a : Option Addr) (n cap : Nat) (L : List Ver) (w : World) (h : RowV w a n L) (hs : versB L = true) :
    Calls Tryz.prog 29 #[.slice a n cap] w (KeysR L w) := by
  have HR := Lib.hid h; clear h
  have HS := Lib.hid hs; clear hs
  have hm := HR.out.2.1
  unfold maxLen at hm
  have hn320 : n ≤ 320 := by rw [← HR.out.1]; exact vers_len ((versB_ok L).1 HS.out)
  go_enter Tryz.func29, Tryz.ntmps29
  go_wp2_with fail
  refine (versionsValid_impl a n cap L _ (HR.out.below (((Below.refl _ _).alloc (Nat.le_refl _) _).alloc (by simp) _))).mono ?_; rintro e w1 ⟨rfl, hb⟩
  rw [HS.out]
  have hA0 : ArrV w1 w.heap.size 61 nils := (((ArrV.new w 61 nils).alloc _).after hb)
  have hA1 : ArrV w1 (w.heap.size + 1) 61 nils := by
    have := (ArrV.new (w.alloc (.cells nils.toArray 61)) 61 nils).after hb
    simpa using this
  have hB : Below w.heap.size w w1 := (((Below.refl _ _).alloc (Nat.le_refl _) _).alloc (by simp) _).trans (hb.mono (by simp; omega))
  clear hb
  go_wp2
  go_loopw [6, 13] (fun _ i wr => ∃ (k : Nat) (vs : List Value), k ≤ n ∧ i = .int .i64 k ∧ ArrV wr w.heap.size 61 nils ∧ ArrV wr (w.heap.size + 1) 61 vs ∧ KVs wr (w.heap.size + 2) 68 vs (ofK (L.take k)) ∧ Below w.heap.size w wr) (fun _ i _ => n - (intOf i).toNat)
  case atStart => exact ⟨0, nils, Nat.zero_le _, rfl, hA0, hA1, KVs.nils _ _ _, hB⟩
  case round =>
    clear hA0 hA1 hB
    obtain ⟨k, vs, hk, rfl, hA0, hA1, hKV, hB⟩ := hrel
    by_cases hlt : k < n
    · obtain ⟨b, off, rfl, hcc⟩ := HR.out.2.2.1 (by omega)
      obtain ⟨c1, c2, c3⟩ := hcc k hlt
      have hbs : b < w.heap.size := World.block_lt_of_cell? w ⟨b, off + k * 3, none⟩ c1
      have hc1 := (hB.cell (p := ⟨b, off + k * 3, none⟩) hbs).trans c1
      have hc2 := (hB.cell (p := ⟨b, off + k * 3 + 1, none⟩) hbs).trans c2
      have hc3 := (hB.cell (p := ⟨b, off + k * 3 + 2, none⟩) hbs).trans c3
      have hok := ((versB_ok L).1 HS.out).1 _ (getD_memV L k (by rw [HR.out.1]; exact hlt))
      have HN := Lib.hid (ofK_next L k (by rw [HR.out.1]; exact hlt))
      clear c1 c2 c3 hcc
      obtain ⟨X, hX⟩ : ∃ X, X = L.getD k noV := ⟨_, rfl⟩
      rw [← hX] at hc1 hc2 hc3 hok HN
      clear hX
      obtain ⟨x, y, z⟩ := X
      have hq := ((verB_iff _).1 hok).1
      simp only at hc1 hc2 hc3 hq HN
      obtain ⟨m, rfl⟩ : ∃ m : Nat, x = (m : Int) := ⟨x.toNat, by omega⟩
      have hm32 : m < 32 := by omega
      have hKK : KOk (ofK (L.take k)) := kok_ofK (((versB_ok L).1 HS.out).sub (List.take_sublist k L))
      obtain ⟨sa, sc, hvk, hrow, hz, -⟩ := hKV.row hKK hm32
      have hln := catK_len hKK hm32
      have hcell := hA1.cell m (by rw [hKV.len]; exact hm32)
      rw [hvk] at hcell
      have hown := hKV.own m hm32
      rw [hvk] at hown
      clear hok hrow hz hKK
      go_upto_region 7 with (fail)
      have hb1 := (Below.refl wr.heap.size wr).alloc (Nat.le_refl _) (.cells #[.int .i64 (m : Int), .int .i64 y, .int .i64 z] 68)
      have hBe := hB.alloc hB.size (.cells #[.int .i64 (m : Int), .int .i64 y, .int .i64 z] 68)
      have m1 : (wr.alloc (.cells #[.int .i64 (m : Int), .int .i64 y, .int .i64 z] 68)).cell? ⟨wr.heap.size, 0, none⟩ = some (.int .i64 (m : Int)) := by simp [go_sem]
      have m2 : (wr.alloc (.cells #[.int .i64 (m : Int), .int .i64 y, .int .i64 z] 68)).cell? ⟨wr.heap.size, 1, none⟩ = some (.int .i64 y) := by simp [go_sem]
      have m3 : (wr.alloc (.cells #[.int .i64 (m : Int), .int .i64 y, .int .i64 z] 68)).cell? ⟨wr.heap.size, 2, none⟩ = some (.int .i64 z) := by simp [go_sem]
      have hE1 : wr.heap.size < (wr.alloc (.cells #[.int .i64 (m : Int), .int .i64 y, .int .i64 z] 68)).heap.size := by simp
      have hE2 : ∀ k, k < 32 → (vs.getD k undef).ownBlock ≠ some wr.heap.size := fun k hk e => by have := (hKV.lt hk e).2; omega
      have hE3 := hA1.lt
      have hE0 := hA0.lt
      obtain ⟨E, hE⟩ : ∃ E, E = wr.heap.size := ⟨_, rfl⟩
      have hA0' := hA0.after hb1
      have hA1' := hA1.after hb1
      have hKV' := hKV.below hb1
      have hown' := owns_below hown hb1
      have hcell' := hA1'.cell m (by rw [hKV.len]; exact hm32)
      rw [hvk] at hcell'
      have hfro' := hA1'.frozen m
      obtain ⟨w2, hw2⟩ : ∃ w2, w2 = wr.alloc (.cells #[.int .i64 (m : Int), .int .i64 y, .int .i64 z] 68) := ⟨_, rfl⟩
      rw [← hw2] at hb1 hBe m1 m2 m3 hE1 hA0' hA1' hKV' hown' hcell' hfro' ⊢
      rw [← hE] at m1 m2 m3 hE1 hE2 hE3 hE0 ⊢
      have hne : (Value.slice sa (ofK (L.take k) m).length sc).ownBlock ≠ some (w.heap.size + 1) := fun e => by have := (hKV.lt hm32 (by rw [hvk]; exact e)).1; omega
      have hne0 : (Value.slice sa (ofK (L.take k) m).length sc).ownBlock ≠ some w.heap.size := fun e => by have := (hKV.lt hm32 (by rw [hvk]; exact e)).1; omega
      have hneE : (Value.slice sa (ofK (L.take k) m).length sc).ownBlock ≠ some E := fun e => hE2 m hm32 (by rw [hvk]; exact e)
      have HVK := Lib.hid hvk
      have HB2 : Hid (w.heap.size + 2 ≤ w2.heap.size) := Lib.hid (by omega)
      have hsB := HB2.out
      have q1 : (0 : Int) ≤ (m : Int) := by omega
      have q2 : (m : Int) < 32 := by omega
      have hlx : (ofK (L.take k) m).length ≤ 4000000 := by omega
      clear hw2 hE hc1 hc2 hc3 hcell hown hA0 hA1 hKV hB hb1 hvk hE2 hln
      obtain ⟨l, hl⟩ : ∃ l, l = ofK (L.take k) m := ⟨_, rfl⟩
      have HLL := Lib.hid hl
      rw [← hl] at hown' hcell' hne hne0 hneE hlx
      clear hl
      obtain ⟨ln, hln⟩ : ∃ ln, ln = l.length := ⟨_, rfl⟩
      have HLN := Lib.hid hln
      rw [← hln] at hown' hcell' hne hne0 hneE hlx
      clear hln
      have HFIN : Hid (∀ (v1 : Value) (w5 : World), w5.ownsRow (w.heap.size + 2) 68 3 v1 (ln + 1) (flatV l ++ [.int .i64 (m : Int), .int .i64 y, .int .i64 z]) → (w2.alloc (.cells #[.int .i64 (m : Int), .int .i64 y, .int .i64 z] 68)).grownBy w5 (Value.slice sa ln sc).ownBlock →
          (v1.ownBlock = (Value.slice sa ln sc).ownBlock ∨ v1.ownBlock = some (w2.heap.size + 1)) →
          ArrV (w5.setCell ⟨w.heap.size + 1, m, none⟩ v1) w.heap.size 61 nils ∧ ArrV (w5.setCell ⟨w.heap.size + 1, m, none⟩ v1) (w.heap.size + 1) 61 (vs.set m v1) ∧ KVs (w5.setCell ⟨w.heap.size + 1, m, none⟩ v1) (w.heap.size + 2) 68 (vs.set m v1) (ofK (L.take (k + 1))) ∧ Below w.heap.size w (w5.setCell ⟨w.heap.size + 1, m, none⟩ v1)) := Lib.hid fun v1 w5 ho hg hat => by
        have ha := World.grownBy_alloc w2 (.cells #[.int .i64 (m : Int), .int .i64 y, .int .i64 z] 68) (Value.slice sa ln sc).ownBlock
        have hg2 := ha.trans hg
        have hvk2 := HVK.out
        rw [← HLL.out, ← HLN.out] at hvk2
        have hfl : flatV l ++ [.int .i64 (m : Int), .int .i64 y, .int .i64 z] = flatV (l ++ [⟨m, y, z⟩]) := by rw [flatV_append]; rfl
        have hlen : ln + 1 = (l ++ [(⟨m, y, z⟩ : Ver)]).length := by rw [List.length_append, ← HLN.out]; rfl
        rw [hfl, hlen] at ho
        have hp := hKV'.put hm32 ho (by rw [hvk2]; exact hg2) (by rw [hvk2]; exact hat.imp id fun e b hb => by rw [e] at hb; cases hb; omega)
        have hs5 := (hA1'.grown hg2 fun e => hne e.symm)
        refine ⟨(hA0'.grown hg2 fun e => hne0 e.symm).keep (Below.heap_setCell _ _ _ _ (by simp)), hs5.set m v1, (hp.keep fun j hj b hb => Below.heap_setCell _ _ _ _ fun e => ?_).congr fun j hj => ?_, (hBe.grown hg2 hBe.size fun q hq => ?_).setCell (by simp) v1⟩
        · have h1 := (hp.lt hj hb).1
          simp at e; omega
        · rw [HN.out j]
          by_cases e : j = m
          · subst e; rw [if_pos rfl, if_pos rfl, HLL.out]
          · rw [if_neg e, if_neg (by omega)]
        · have := (hown'.lt q hq).1; omega
      have hV := hA1'
      have hca : ∀ o, (w2.alloc o).cell? ⟨w.heap.size + 1, m, none⟩ = some (.slice sa ln sc) := fun o => (((Below.refl w2.heap.size w2).alloc (Nat.le_refl _) o).cell (p := ⟨w.heap.size + 1, m, none⟩) hA1'.lt).trans hcell'
      have hma : ∀ o, (w2.alloc o).cell? ⟨E, 0, none⟩ = some (.int .i64 (m : Int)) := fun o => (((Below.refl w2.heap.size w2).alloc (Nat.le_refl _) o).cell (p := ⟨E, 0, none⟩) hE1).trans m1
      go_region_law (first | (refine step_app1d rfl (.tmp 22) (.tmp 24) 35 rfl (w.heap.size + 2) 68 _ (.agg #[.int .i64 0, .int .i64 0, .int .i64 0]) 3 24 Tryz.underlying35 infoVerP rfl (by decide) (.slice sa ln sc) ln _ [.int .i64 (m : Int), .int .i64 y, .int .i64 z] (by rfl) hown' (by rfl) rfl (celV_one ⟨m, y, z⟩) hlx (by decide) hsB ?_; intro v1 w5 ho1' hnn hg1 hat; obtain ⟨g1, cp1, rfl, hg1B, hg1lt⟩ := Own.slice ⟨ho1', hnn⟩; have hV5 := (hV.alloc _).grown hg1 (fun e => hne e.symm); have hc5 := hV5.cell m (by rw [hKV'.len]; exact hm32); have hf5 := hV5.frozen m; have he5 : w5.cell? ⟨E, 0, none⟩ = some (.int .i64 (m : Int)) := hg1.cell (hma _) (fun e => hneE e.symm)))
      all_goals
        obtain ⟨r1, r2, r3, r4⟩ := HFIN.out _ w5 ho1' hg1 hat
        obtain ⟨w6, hw6⟩ : ∃ w6, w6 = w5.setCell ⟨w.heap.size + 1, m, none⟩ (.slice (some ⟨g1, 0, none⟩) (ln + 1) cp1) := ⟨_, rfl⟩
        rw [← hw6] at r1 r2 r3 r4 ⊢
        clear hw6 ho1' hg1 hat hV5 hc5 hf5 he5 hnn
        clear hV hca hma HFIN hown' hA0' hA1' hKV' hcell' hfro' hne hne0 hneE
        go_wp2
        go_roundw
        case rel => exact ⟨k + 1, _, by omega, by go_num, r1, r2, r3, r4⟩
        case measure => simp [intOf]; omega
    · obtain rfl : k = n := by omega
      have e : L.take k = L := List.take_of_length_le (by rw [HR.out.1]; omega)
      rw [e] at hKV
      have HL := Lib.hid hKV.len
      clear e
      have hone := hKV.one
      go_wp2_with (first | (refine wpList_load_arrV rfl _ _ rfl _ (by rfl) 61 vs hA1 _ _ Tryz.underlying61 (by rw [HL.out]; exact infoKeys) ?_) | (refine wpList_store_arrV rfl _ _ _ rfl _ vs (by rfl) (by rfl) 61 _ hA0 (by rw [HL.out]; exact infoKeys) (by rw [HL.out]; rfl) hone ?_; intro w2 hA2 hg2 hz2))
      refine bodyPost_ret (results_arrV_slot Tryz.results29 _ (by rfl) (.bool true) (by rfl) hA2 _ _ Tryz.underlying61 (by rw [HL.out]; exact infoKeys)) rfl ⟨vs, by rw [HS.out], ?_, ?_⟩
      · have e : perK L = ofK L := by unfold perK; rw [if_pos HS.out]
        rw [e]
        exact (hKV.mono (Nat.le_add_right _ 2)).grown hg2 fun j hj p hp e => by
          have := (hKV.lt hj hp).1
          simp only [Option.some.injEq] at e
          omega
      · exact hB.grown hg2 hB.size fun k hk => by cases hk; exact Nat.le_refl _
theorem versionsPerKey_impl (a : Option Addr) (n cap : Nat) (L : List Ver) (w : World) (h : RowV w a n L) :
    Calls Tryz.prog 29 #[.slice a n cap] w (KeysR L w) := by
  cases hs : versB L with
  | true => exact perKey_yes a n cap L w h hs
  | false => exact perKey_no a n cap L w h hs
/-- An array of lists that is laid into a block of its own. -/
theorem KVs.laid {w w5 : World} {B : Nat} {T e0 : TypeId} {vs : List Value} {F : Nat → List Ver} (h : KVs w B e0 vs F) (o : Obj) (hA : ArrV w5 w.heap.size T vs) (hg : (w.alloc o).grownBy w5 (some w.heap.size)) : KV w5 B w.heap.size T e0 F := by
  have hb := (Below.refl w.heap.size w).alloc (Nat.le_refl _) o
  refine ⟨vs, hA, (h.below hb).grown hg fun k hk b hq e => ?_, fun k hk e => ?_⟩
  · have := (h.lt hk hq).2
    simp only [Option.some.injEq] at e; omega
  · have := (h.lt hk e).2; omega
theorem perK_yes {L : List Ver} (h : versB L = true) : perK L = ofK L := by unfold perK; rw [if_pos h]
end Go.Proofs.YtncedcliklpapaaGreat

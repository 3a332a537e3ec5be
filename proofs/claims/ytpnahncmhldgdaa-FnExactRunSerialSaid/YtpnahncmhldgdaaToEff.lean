/- The contract of the laws' helper toEffect: a copy of an effect. -/
import Derived.Test.YtpnahncmhldgdaaConv
import Derived.Test.YtpnahncmhldgdaaSpecEff
namespace Go.Proofs.Ytpnahncmhldgdaa
open Go.RowKit
set_option linter.unusedVariables false
set_option maxHeartbeats 1000000 in
theorem toEffect_any (dn : Bool) (a : Option Addr) (n c : Nat) (b : Option Addr) (m c2 : Nat) (R W : List Ent) (w : World) (h : RowF w a n b m ⟨dn, R, W⟩) (hn : n ≤ 1048576) (hm : m ≤ 1048576) :
    Calls Try.prog 80 #[.agg #[.bool dn, .slice a n c, .slice b m c2]] w (NewF w 70 ⟨dn, R, W⟩) := by
  have hA0 := eAt_new w 103 dn (.slice a n c) (.slice b m c2)
  have hA1 := (hA0.grown (World.grownBy_alloc _ (.cells #[.bool false, .slice none 0 0, .slice none 0 0] 39) none) (by simp)).grown (World.grownBy_alloc _ (.cells #[.bool dn, .slice none 0 0, .slice none 0 0] 39) none) (by simp)
  have hZ1 := (zAt_new (w.alloc (.cells #[.bool dn, .slice a n c, .slice b m c2] 103)) 39).grown (World.grownBy_alloc _ (.cells #[.bool dn, .slice none 0 0, .slice none 0 0] 39) none) (by simp)
  have hE1 := eAt_new ((w.alloc (.cells #[.bool dn, .slice a n c, .slice b m c2] 103)).alloc (.cells #[.bool false, .slice none 0 0, .slice none 0 0] 39)) 39 dn (.slice none 0 0) (.slice none 0 0)
  have hb1 := (((Below.refl w.heap.size w).alloc (Nat.le_refl _) (.cells #[.bool dn, .slice a n c, .slice b m c2] 103)).alloc (by simp) (.cells #[.bool false, .slice none 0 0, .slice none 0 0] 39)).alloc (by simp; omega) (.cells #[.bool dn, .slice none 0 0, .slice none 0 0] 39)
  rw [World.size_alloc] at hZ1
  rw [World.size_alloc, World.size_alloc] at hE1
  go_enter Try.func80, Try.ntmps80
  go_wp2_with fail
  obtain ⟨w1, hw1⟩ : ∃ w1, w1 = ((w.alloc (.cells #[.bool dn, .slice a n c, .slice b m c2] 103)).alloc (.cells #[.bool false, .slice none 0 0, .slice none 0 0] 39)).alloc (.cells #[.bool dn, .slice none 0 0, .slice none 0 0] 39) := ⟨_, rfl⟩
  rw [← hw1] at hA1 hZ1 hE1 hb1 ⊢
  clear hw1 hA0
  refine (toEntryS_any a n c R _ (h.1.below hb1) hn).mono ?_; rintro e w2 ⟨v2, rfl, ho2, hwf2, hb2⟩
  obtain ⟨g2, cp2, rfl, hg2, hl2⟩ := ho2.slice
  have hEl := hE1.2.2
  have hb3 := (hb1.trans (hb2.mono hb1.size)).setCell (p := ⟨w.heap.size + 1 + 1, 1, none⟩) (by simp; omega) (.slice (some ⟨g2, 0, none⟩) R.length cp2)
  have hE2 := hE1.below hb2
  have hs2 := set_grown w2 (w.heap.size + 1 + 1) 1 (.slice (some ⟨g2, 0, none⟩) R.length cp2)
  have hA3 := (hA1.below hb2).grown hs2 (by simp; omega)
  have hZ3 := (hZ1.below hb2 (by omega)).grown hs2 (by simp)
  have hE3 := hE2.set1 (.slice (some ⟨g2, 0, none⟩) R.length cp2)
  have o3 := owns_set ho2.1 (show Value.ownBlock (.slice (some ⟨g2, 0, none⟩) R.length cp2) ≠ some (w.heap.size + 1 + 1) from fun e => by have := (ho2.1.lt _ e).1; omega) 1 (.slice (some ⟨g2, 0, none⟩) R.length cp2)
  have H3 := Lib.hid (h.2.below hb3)
  have HB3 := Lib.hid hb3
  have HA3 := Lib.hid hA3
  have HZ3 := Lib.hid hZ3
  have HE3 := Lib.hid hE3
  have HO3 := Lib.hid o3
  obtain ⟨⟨c0, c1, c3⟩, ⟨k0, k1, k2⟩, -⟩ := hE2
  obtain ⟨⟨a0, a1, a2⟩, -⟩ := hA1.below hb2
  clear hA1 hZ1 hE1 hb1 hb2 hb3 hs2 hA3 hZ3 hE3 o3 ho2 h
  go_wp2_with fail
  obtain ⟨w3, hw3⟩ : ∃ w3, w3 = w2.setCell ⟨w.heap.size + 1 + 1, 1, none⟩ (.slice (some ⟨g2, 0, none⟩) R.length cp2) := ⟨_, rfl⟩
  have hs3 : w2.heap.size ≤ w3.heap.size := by rw [hw3]; simp [World.setCell]
  rw [← hw3] at H3 HB3 HA3 HZ3 HE3 HO3 ⊢
  clear hw3 a0 a1 a2 c0 c1 c3 k0 k1 k2
  refine (toEntryS_any b m c2 W _ H3.out hm).mono ?_; rintro e w4 ⟨v4, rfl, ho4, hwf4, hb4⟩
  obtain ⟨g4, cp4, rfl, hg4, hl4⟩ := ho4.slice
  have hE4 := HE3.out.below hb4
  have hZ4 := HZ3.out.below hb4 (by omega)
  have hO4 := owns_below HO3.out hb4
  have hB4 := HB3.out.trans (hb4.mono HB3.out.size)
  have hZE : EAt w4 (w.heap.size + 1) false (.slice none 0 0) (.slice none 0 0) := hZ4
  have hs5 := set_grown w4 (w.heap.size + 1 + 1) 2 (.slice (some ⟨g4, 0, none⟩) W.length cp4)
  have HE := Lib.hid ((((hZE.grown hs5 (by simp)).set0 dn).set1 (.slice (some ⟨g2, 0, none⟩) R.length cp2)).set2 (.slice (some ⟨g4, 0, none⟩) W.length cp4))
  have q2 := owns_set hO4 (show Value.ownBlock (.slice (some ⟨g2, 0, none⟩) R.length cp2) ≠ some (w.heap.size + 1 + 1) from fun e => by simp [Value.ownBlock] at e; omega) 2 (.slice (some ⟨g4, 0, none⟩) W.length cp4)
  have q4 := owns_set ho4.1 (show Value.ownBlock (.slice (some ⟨g4, 0, none⟩) W.length cp4) ≠ some (w.heap.size + 1 + 1) from fun e => by simp [Value.ownBlock] at e; omega) 2 (.slice (some ⟨g4, 0, none⟩) W.length cp4)
  have hF := ownF_mk (x := ⟨dn, R, W⟩) (owns_mono q2 (show w.heap.size + 1 + 2 ≤ w1.heap.size by omega)) (owns_mono q4 (show w.heap.size + 1 + 2 ≤ w3.heap.size by omega)) hwf2 hwf4 (fun p hp hq => by simp [Value.ownBlock] at hp hq; omega)
  have HF := Lib.hid ((ownF_set3 hF (hF.apart (Z := w.heap.size + 1) (by omega)) 0 1 2 (.bool dn) (.slice (some ⟨g2, 0, none⟩) R.length cp2) (.slice (some ⟨g4, 0, none⟩) W.length cp4)).mono (show w.heap.size ≤ _ by omega))
  have HB := Lib.hid (below_set3 (hB4.setCell (p := ⟨w.heap.size + 1 + 1, 2, none⟩) (by simp; omega) (.slice (some ⟨g4, 0, none⟩) W.length cp4)) (show w.heap.size ≤ w.heap.size + 1 by omega) 0 1 2 (.bool dn) (.slice (some ⟨g2, 0, none⟩) R.length cp2) (.slice (some ⟨g4, 0, none⟩) W.length cp4))
  obtain ⟨⟨c0, c1, c3⟩, ⟨k0, k1, k2⟩, -⟩ := hE4
  obtain ⟨⟨z0, z1, z2⟩, ⟨z3, z4, z5⟩, -⟩ := hZ4
  obtain ⟨⟨a0, a1, a2⟩, -⟩ := HA3.out.below hb4
  clear HE3 HZ3 HO3 HB3 HA3 H3 hb4 ho4 hs5 q2 q4 hF hZE hO4 hB4
  go_wp2_with fail
  exact bodyPost_ret (results_eff Try.results80 _ (by rfl) HE.out) rfl ⟨_, rfl, HF.out, HB.out⟩
end Go.Proofs.Ytpnahncmhldgdaa

/- The contract of spec.DrawSumMore: two numbers. -/
import Derived.Test.YtikcadapbeokoaaPick
import Derived.Test.YtikcadapbeokoaaRegionInv
namespace Go.Proofs.Ytikcadapbeokoaa
open Go.RowKit
/-- What a slot of a drawn region holds: the reader's place; a number in bounds; a new row of numbers in bounds; a place in such a row. -/
inductive SK where
  | rd | int (lo hi : Int) | lit (n : Nat) (lo hi : Int) | to (lo hi : Int) | any
def SK.ok (R : Nat) : SK → Value → World → Prop
  | .rd, v, _ => v = .pointer (some ⟨R, 0, none⟩)
  | .int lo hi, v, _ => ∃ x : Int, v = .int .i64 x ∧ lo ≤ x ∧ x ≤ hi
  | .lit n lo hi, v, w => ∃ g, v = .slice (some ⟨g, 0, none⟩) n n ∧ R < g ∧ ∀ i, i < n → ∃ x : Int, w.cell? ⟨g, i, none⟩ = some (.int .i64 x) ∧ lo ≤ x ∧ x ≤ hi
  | .to lo hi, v, w => ∃ g i, v = .pointer (some ⟨g, i, none⟩) ∧ R < g ∧ ∃ x : Int, w.cell? ⟨g, i, none⟩ = some (.int .i64 x) ∧ lo ≤ x ∧ x ≤ hi
  | .any, _, _ => True
theorem SK.ok_upd {R : Nat} : ∀ (k : SK) (v : Value) (w w' : World), k.ok R v w → Upd R w w' → k.ok R v w'
  | .rd, _, _, _, h, _ => h
  | .int _ _, _, _, _, h, _ => h
  | .lit _ _ _, _, _, _, ⟨g, hv, hg, hc⟩, hu => ⟨g, hv, hg, fun i hi => by obtain ⟨x, hx, hb⟩ := hc i hi; exact ⟨x, hu.cell hx (by omega), hb⟩⟩
  | .to _ _, _, _, _, ⟨g, i, hv, hg, x, hx, hb⟩, hu => ⟨g, i, hv, hg, x, hu.cell hx (by omega), hb⟩
  | .any, _, _, _, _, _ => trivial
def TwoInts (w : World) (e : Ending) (w' : World) : Prop := ∃ x y : Int, e = .returned (.tuple #[.int .i64 x, .int .i64 y]) ∧ -10000000 ≤ x ∧ x ≤ 10000000 ∧ -10000000 ≤ y ∧ y ≤ 10000000 ∧ Below w.heap.size w w'
/-- The slots of DrawSumMore's one region. -/
def moreSlots : Nat → SK
  | 7 | 12 | 18 | 22 => .rd
  | 8 | 19 => .int 0 255
  | 9 => .int 0 1000000
  | 10 | 20 => .lit 4 (-10000000) 10000000
  | 11 | 21 => .lit 6 0 3
  | 13 | 23 => .int 0 5
  | 14 | 24 => .to 0 3
  | 15 | 25 => .int 0 3
  | 16 | 26 => .to (-10000000) 10000000
  | 17 | 27 | 2 | 3 => .int (-10000000) 10000000
  | _ => .any
set_option maxHeartbeats 4000000 in
theorem drawSumMore_any (a : Option Addr) (len cap : Nat) (z : List Int) (w : World) (h : RowB w a len z) (hlc : len ≤ cap) :
    Calls Try.prog 11 #[.slice a len cap] w (TwoInts w) := by
  go_enter Try.func11, Try.ntmps11
  go_wp2_with fail
  refine (open_any a len cap z w h hlc).mono ?_
  rintro e w1 ⟨R, rfl, hR, hr, hb, hRlt⟩
  clear h hlc
  go_wp2_with fail
  refine wp_region_steps (by kernel_rfl) (fun n w' => Rd w' R n ∧ Below w.heap.size w w') (fun s v w => (moreSlots s).ok R v w) (Upd R) [7, 8, 9, 10, 11, 12, 13, 14, 15, 16, 17, 18, 19, 20, 21, 22, 23, 24, 25, 26, 27, 2, 3] (by kernel_rfl) (by kernel_rfl) (by kernel_rfl) (by kernel_rfl)
    (fun s v w w' => SK.ok_upd _ _ _ _) ⟨hr.drew, hb.drew⟩ ?_ ?_
  · intro i hi
    rcases (by have : i < 23 := hi; omega : i = 0 ∨ i = 1 ∨ i = 2 ∨ i = 3 ∨ i = 4 ∨ i = 5 ∨ i = 6 ∨ i = 7 ∨ i = 8 ∨ i = 9 ∨ i = 10 ∨ i = 11 ∨ i = 12 ∨ i = 13 ∨ i = 14 ∨ i = 15 ∨ i = 16 ∨ i = 17 ∨ i = 18 ∨ i = 19 ∨ i = 20 ∨ i = 21 ∨ i = 22) with rfl | rfl | rfl | rfl | rfl | rfl | rfl | rfl | rfl | rfl | rfl | rfl | rfl | rfl | rfl | rfl | rfl | rfl | rfl | rfl | rfl | rfl | rfl
    · -- operation 0: mv
      clear hi; intro o ho n f w' hn hI hd K hK; have hn' : n < 23 := hn; clear hn; have hI' := hI.1.mono (Nat.le_succ n)
      obtain rfl := Option.some.inj ho
      clear ho
      simp only [mixF, List.contains_cons, List.contains_nil] at hK ⊢
      clear hd
      go_simp
      have := hK (.pointer (some ⟨R, 0, none⟩)) w' rfl ⟨hI', hI.2⟩ (Upd.refl _ _)
      simpa [Act.put] using this
    · -- operation 1: call256
      clear hi; intro o ho n f w' hn hI hd K hK; have hn' : n < 23 := hn; clear hn; have hI' := hI.1.mono (Nat.le_succ n)
      obtain rfl := Option.some.inj ho
      clear ho
      simp only [mixF, List.contains_cons, List.contains_nil] at hK ⊢
      simp [depsOf, Region.binds, moreSlots, SK.ok] at hd
      obtain ⟨hr, hb⟩ := hI
      go_simp
      refine (pick_pos R n 256 _ hr (by omega) (by omega) (by omega)).mono ?_
      rintro e w2 ⟨x, rfl, hx0, hx1, hr2, hu⟩
      have := hK (.int .i64 x) w2 (show (SK.int 0 255).ok R (.int .i64 x) w2 from ⟨x, rfl, hx0, by omega⟩) ⟨hr2, hu.below hb hb.size hR⟩ hu
      simpa [Act.put, hd] using this
    · -- operation 2: mul3900
      clear hi; intro o ho n f w' hn hI hd K hK; have hn' : n < 23 := hn; clear hn; have hI' := hI.1.mono (Nat.le_succ n)
      obtain rfl := Option.some.inj ho
      clear ho
      simp only [mixF, List.contains_cons, List.contains_nil] at hK ⊢
      simp [depsOf, Region.binds, moreSlots, SK.ok] at hd
      obtain ⟨x, hx, hx0, hx1⟩ := hd
      have ew : IntKind.i64.wrap (x * 3900) = x * 3900 := IntWalk.i64_in _ (by omega)
      go_simp
      have := hK (.int .i64 (x * 3900)) w' (show (SK.int 0 1000000).ok R _ w' from ⟨x * 3900, rfl, by omega, by omega⟩) ⟨hI', hI.2⟩ (Upd.refl _ _)
      simpa [Act.put, hx] using this
    · -- operation 3: lit4a:1000000
      clear hi; intro o ho n f w' hn hI hd K hK; have hn' : n < 23 := hn; clear hn; have hI' := hI.1.mono (Nat.le_succ n)
      obtain rfl := Option.some.inj ho
      clear ho
      simp only [mixF, List.contains_cons, List.contains_nil] at hK ⊢
      simp [depsOf, Region.binds, moreSlots, SK.ok] at hd
      obtain ⟨x, hx, hx0, hx1⟩ := hd
      have hRw := hI.1.lt
      go_simp
      have hlit : ∀ i, i < 4 → ∃ y : Int, (w'.alloc (.cells #[.int .i64 x, .int .i64 1000002, .int .i64 1000003, .int .i64 (-1)] 3)).cell? ⟨w'.heap.size, i, none⟩ = some (.int .i64 y) ∧ (-10000000) ≤ y ∧ y ≤ 10000000 := by
        intro j hj
        rcases (by omega : j = 0 ∨ j = 1 ∨ j = 2 ∨ j = 3) with rfl | rfl | rfl | rfl <;> exact ⟨_, by simp [go_sem]; rfl, by omega, by omega⟩
      have := hK (.slice (some ⟨w'.heap.size, 0, none⟩) 4 4) (w'.alloc (.cells #[.int .i64 x, .int .i64 1000002, .int .i64 1000003, .int .i64 (-1)] 3)) (show (SK.lit 4 (-10000000) 10000000).ok R _ _ from ⟨w'.heap.size, rfl, hRw, hlit⟩) ⟨hI'.alloc _, hI.2.alloc hI.2.size _⟩ ((Upd.refl _ _).alloc _)
      simpa [Act.put, hx] using this
    · -- operation 4: lit6
      clear hi; intro o ho n f w' hn hI hd K hK; have hn' : n < 23 := hn; clear hn; have hI' := hI.1.mono (Nat.le_succ n)
      obtain rfl := Option.some.inj ho
      clear ho
      simp only [mixF, List.contains_cons, List.contains_nil] at hK ⊢
      clear hd
      have hRw := hI.1.lt
      go_simp
      have hlit : ∀ i, i < 6 → ∃ y : Int, (w'.alloc (.cells #[.int .i64 0, .int .i64 0, .int .i64 0, .int .i64 1, .int .i64 2, .int .i64 3] 3)).cell? ⟨w'.heap.size, i, none⟩ = some (.int .i64 y) ∧ 0 ≤ y ∧ y ≤ 3 := by
        intro j hj
        rcases (by omega : j = 0 ∨ j = 1 ∨ j = 2 ∨ j = 3 ∨ j = 4 ∨ j = 5) with rfl | rfl | rfl | rfl | rfl | rfl <;> exact ⟨_, by simp [go_sem]; rfl, by omega, by omega⟩
      have := hK (.slice (some ⟨w'.heap.size, 0, none⟩) 6 6) (w'.alloc (.cells #[.int .i64 0, .int .i64 0, .int .i64 0, .int .i64 1, .int .i64 2, .int .i64 3] 3)) (show (SK.lit 6 0 3).ok R _ _ from ⟨w'.heap.size, rfl, hRw, hlit⟩) ⟨hI'.alloc _, hI.2.alloc hI.2.size _⟩ ((Upd.refl _ _).alloc _)
      simpa [Act.put] using this
    · -- operation 5: mv
      clear hi; intro o ho n f w' hn hI hd K hK; have hn' : n < 23 := hn; clear hn; have hI' := hI.1.mono (Nat.le_succ n)
      obtain rfl := Option.some.inj ho
      clear ho
      simp only [mixF, List.contains_cons, List.contains_nil] at hK ⊢
      clear hd
      go_simp
      have := hK (.pointer (some ⟨R, 0, none⟩)) w' rfl ⟨hI', hI.2⟩ (Upd.refl _ _)
      simpa [Act.put] using this
    · -- operation 6: call6
      clear hi; intro o ho n f w' hn hI hd K hK; have hn' : n < 23 := hn; clear hn; have hI' := hI.1.mono (Nat.le_succ n)
      obtain rfl := Option.some.inj ho
      clear ho
      simp only [mixF, List.contains_cons, List.contains_nil] at hK ⊢
      simp [depsOf, Region.binds, moreSlots, SK.ok] at hd
      obtain ⟨hr, hb⟩ := hI
      go_simp
      refine (pick_pos R n 6 _ hr (by omega) (by omega) (by omega)).mono ?_
      rintro e w2 ⟨x, rfl, hx0, hx1, hr2, hu⟩
      have := hK (.int .i64 x) w2 (show (SK.int 0 5).ok R (.int .i64 x) w2 from ⟨x, rfl, hx0, by omega⟩) ⟨hr2, hu.below hb hb.size hR⟩ hu
      simpa [Act.put, hd] using this
    · -- operation 7: idx
      clear hi; intro o ho n f w' hn hI hd K hK; have hn' : n < 23 := hn; clear hn; have hI' := hI.1.mono (Nat.le_succ n)
      obtain rfl := Option.some.inj ho
      clear ho
      simp only [mixF, List.contains_cons, List.contains_nil] at hK ⊢
      simp [depsOf, Region.binds, moreSlots, SK.ok] at hd
      obtain ⟨⟨g, h1, hg, hc⟩, x, h2, hx0, hx1⟩ := hd
      obtain ⟨y, hy, hy0, hy1⟩ := hc x.toNat (by omega)
      have hx2 : x < 6 := by omega
      go_simp
      have := hK (.pointer (some ⟨g, x.toNat, none⟩)) w' (show (SK.to 0 3).ok R _ w' from ⟨g, x.toNat, rfl, hg, y, hy, hy0, hy1⟩) ⟨hI', hI.2⟩ (Upd.refl _ _)
      simpa [Act.put, h1, h2] using this
    · -- operation 8: ld:0:3
      clear hi; intro o ho n f w' hn hI hd K hK; have hn' : n < 23 := hn; clear hn; have hI' := hI.1.mono (Nat.le_succ n)
      obtain rfl := Option.some.inj ho
      clear ho
      simp only [mixF, List.contains_cons, List.contains_nil] at hK ⊢
      simp [depsOf, Region.binds, moreSlots, SK.ok] at hd
      obtain ⟨g, i, h1, hg, y, hy, hy0, hy1⟩ := hd
      go_simp
      have := hK (.int .i64 y) w' (show (SK.int (0) 3).ok R _ w' from ⟨y, rfl, hy0, hy1⟩) ⟨hI', hI.2⟩ (Upd.refl _ _)
      simpa [Act.put, h1] using this
    · -- operation 9: idx:4
      clear hi; intro o ho n f w' hn hI hd K hK; have hn' : n < 23 := hn; clear hn; have hI' := hI.1.mono (Nat.le_succ n)
      obtain rfl := Option.some.inj ho
      clear ho
      simp only [mixF, List.contains_cons, List.contains_nil] at hK ⊢
      simp [depsOf, Region.binds, moreSlots, SK.ok] at hd
      obtain ⟨⟨g, h1, hg, hc⟩, x, h2, hx0, hx1⟩ := hd
      obtain ⟨y, hy, hy0, hy1⟩ := hc x.toNat (by omega)
      have hx2 : x < 4 := by omega
      go_simp
      have := hK (.pointer (some ⟨g, x.toNat, none⟩)) w' (show (SK.to (-10000000) 10000000).ok R _ w' from ⟨g, x.toNat, rfl, hg, y, hy, hy0, hy1⟩) ⟨hI', hI.2⟩ (Upd.refl _ _)
      simpa [Act.put, h1, h2] using this
    · -- operation 10: ld:-10000000:10000000
      clear hi; intro o ho n f w' hn hI hd K hK; have hn' : n < 23 := hn; clear hn; have hI' := hI.1.mono (Nat.le_succ n)
      obtain rfl := Option.some.inj ho
      clear ho
      simp only [mixF, List.contains_cons, List.contains_nil] at hK ⊢
      simp [depsOf, Region.binds, moreSlots, SK.ok] at hd
      obtain ⟨g, i, h1, hg, y, hy, hy0, hy1⟩ := hd
      go_simp
      have := hK (.int .i64 y) w' (show (SK.int (-10000000) 10000000).ok R _ w' from ⟨y, rfl, hy0, hy1⟩) ⟨hI', hI.2⟩ (Upd.refl _ _)
      simpa [Act.put, h1] using this
    · -- operation 11: mv
      clear hi; intro o ho n f w' hn hI hd K hK; have hn' : n < 23 := hn; clear hn; have hI' := hI.1.mono (Nat.le_succ n)
      obtain rfl := Option.some.inj ho
      clear ho
      simp only [mixF, List.contains_cons, List.contains_nil] at hK ⊢
      clear hd
      go_simp
      have := hK (.pointer (some ⟨R, 0, none⟩)) w' rfl ⟨hI', hI.2⟩ (Upd.refl _ _)
      simpa [Act.put] using this
    · -- operation 12: call256
      clear hi; intro o ho n f w' hn hI hd K hK; have hn' : n < 23 := hn; clear hn; have hI' := hI.1.mono (Nat.le_succ n)
      obtain rfl := Option.some.inj ho
      clear ho
      simp only [mixF, List.contains_cons, List.contains_nil] at hK ⊢
      simp [depsOf, Region.binds, moreSlots, SK.ok] at hd
      obtain ⟨hr, hb⟩ := hI
      go_simp
      refine (pick_pos R n 256 _ hr (by omega) (by omega) (by omega)).mono ?_
      rintro e w2 ⟨x, rfl, hx0, hx1, hr2, hu⟩
      have := hK (.int .i64 x) w2 (show (SK.int 0 255).ok R (.int .i64 x) w2 from ⟨x, rfl, hx0, by omega⟩) ⟨hr2, hu.below hb hb.size hR⟩ hu
      simpa [Act.put, hd] using this
    · -- operation 13: lit4b
      clear hi; intro o ho n f w' hn hI hd K hK; have hn' : n < 23 := hn; clear hn; have hI' := hI.1.mono (Nat.le_succ n)
      obtain rfl := Option.some.inj ho
      clear ho
      simp only [mixF, List.contains_cons, List.contains_nil] at hK ⊢
      simp [depsOf, Region.binds, moreSlots, SK.ok] at hd
      obtain ⟨x, hx, hx0, hx1⟩ := hd
      have hRw := hI.1.lt
      go_simp
      have hlit : ∀ i, i < 4 → ∃ y : Int, (w'.alloc (.cells #[.int .i64 x, .int .i64 2000000, .int .i64 2000001, .int .i64 (-1)] 3)).cell? ⟨w'.heap.size, i, none⟩ = some (.int .i64 y) ∧ (-10000000) ≤ y ∧ y ≤ 10000000 := by
        intro j hj
        rcases (by omega : j = 0 ∨ j = 1 ∨ j = 2 ∨ j = 3) with rfl | rfl | rfl | rfl <;> exact ⟨_, by simp [go_sem]; rfl, by omega, by omega⟩
      have := hK (.slice (some ⟨w'.heap.size, 0, none⟩) 4 4) (w'.alloc (.cells #[.int .i64 x, .int .i64 2000000, .int .i64 2000001, .int .i64 (-1)] 3)) (show (SK.lit 4 (-10000000) 10000000).ok R _ _ from ⟨w'.heap.size, rfl, hRw, hlit⟩) ⟨hI'.alloc _, hI.2.alloc hI.2.size _⟩ ((Upd.refl _ _).alloc _)
      simpa [Act.put, hx] using this
    · -- operation 14: lit6
      clear hi; intro o ho n f w' hn hI hd K hK; have hn' : n < 23 := hn; clear hn; have hI' := hI.1.mono (Nat.le_succ n)
      obtain rfl := Option.some.inj ho
      clear ho
      simp only [mixF, List.contains_cons, List.contains_nil] at hK ⊢
      clear hd
      have hRw := hI.1.lt
      go_simp
      have hlit : ∀ i, i < 6 → ∃ y : Int, (w'.alloc (.cells #[.int .i64 0, .int .i64 0, .int .i64 0, .int .i64 1, .int .i64 2, .int .i64 3] 3)).cell? ⟨w'.heap.size, i, none⟩ = some (.int .i64 y) ∧ 0 ≤ y ∧ y ≤ 3 := by
        intro j hj
        rcases (by omega : j = 0 ∨ j = 1 ∨ j = 2 ∨ j = 3 ∨ j = 4 ∨ j = 5) with rfl | rfl | rfl | rfl | rfl | rfl <;> exact ⟨_, by simp [go_sem]; rfl, by omega, by omega⟩
      have := hK (.slice (some ⟨w'.heap.size, 0, none⟩) 6 6) (w'.alloc (.cells #[.int .i64 0, .int .i64 0, .int .i64 0, .int .i64 1, .int .i64 2, .int .i64 3] 3)) (show (SK.lit 6 0 3).ok R _ _ from ⟨w'.heap.size, rfl, hRw, hlit⟩) ⟨hI'.alloc _, hI.2.alloc hI.2.size _⟩ ((Upd.refl _ _).alloc _)
      simpa [Act.put] using this
    · -- operation 15: mv
      clear hi; intro o ho n f w' hn hI hd K hK; have hn' : n < 23 := hn; clear hn; have hI' := hI.1.mono (Nat.le_succ n)
      obtain rfl := Option.some.inj ho
      clear ho
      simp only [mixF, List.contains_cons, List.contains_nil] at hK ⊢
      clear hd
      go_simp
      have := hK (.pointer (some ⟨R, 0, none⟩)) w' rfl ⟨hI', hI.2⟩ (Upd.refl _ _)
      simpa [Act.put] using this
    · -- operation 16: call6
      clear hi; intro o ho n f w' hn hI hd K hK; have hn' : n < 23 := hn; clear hn; have hI' := hI.1.mono (Nat.le_succ n)
      obtain rfl := Option.some.inj ho
      clear ho
      simp only [mixF, List.contains_cons, List.contains_nil] at hK ⊢
      simp [depsOf, Region.binds, moreSlots, SK.ok] at hd
      obtain ⟨hr, hb⟩ := hI
      go_simp
      refine (pick_pos R n 6 _ hr (by omega) (by omega) (by omega)).mono ?_
      rintro e w2 ⟨x, rfl, hx0, hx1, hr2, hu⟩
      have := hK (.int .i64 x) w2 (show (SK.int 0 5).ok R (.int .i64 x) w2 from ⟨x, rfl, hx0, by omega⟩) ⟨hr2, hu.below hb hb.size hR⟩ hu
      simpa [Act.put, hd] using this
    · -- operation 17: idx
      clear hi; intro o ho n f w' hn hI hd K hK; have hn' : n < 23 := hn; clear hn; have hI' := hI.1.mono (Nat.le_succ n)
      obtain rfl := Option.some.inj ho
      clear ho
      simp only [mixF, List.contains_cons, List.contains_nil] at hK ⊢
      simp [depsOf, Region.binds, moreSlots, SK.ok] at hd
      obtain ⟨⟨g, h1, hg, hc⟩, x, h2, hx0, hx1⟩ := hd
      obtain ⟨y, hy, hy0, hy1⟩ := hc x.toNat (by omega)
      have hx2 : x < 6 := by omega
      go_simp
      have := hK (.pointer (some ⟨g, x.toNat, none⟩)) w' (show (SK.to 0 3).ok R _ w' from ⟨g, x.toNat, rfl, hg, y, hy, hy0, hy1⟩) ⟨hI', hI.2⟩ (Upd.refl _ _)
      simpa [Act.put, h1, h2] using this
    · -- operation 18: ld:0:3
      clear hi; intro o ho n f w' hn hI hd K hK; have hn' : n < 23 := hn; clear hn; have hI' := hI.1.mono (Nat.le_succ n)
      obtain rfl := Option.some.inj ho
      clear ho
      simp only [mixF, List.contains_cons, List.contains_nil] at hK ⊢
      simp [depsOf, Region.binds, moreSlots, SK.ok] at hd
      obtain ⟨g, i, h1, hg, y, hy, hy0, hy1⟩ := hd
      go_simp
      have := hK (.int .i64 y) w' (show (SK.int (0) 3).ok R _ w' from ⟨y, rfl, hy0, hy1⟩) ⟨hI', hI.2⟩ (Upd.refl _ _)
      simpa [Act.put, h1] using this
    · -- operation 19: idx:4
      clear hi; intro o ho n f w' hn hI hd K hK; have hn' : n < 23 := hn; clear hn; have hI' := hI.1.mono (Nat.le_succ n)
      obtain rfl := Option.some.inj ho
      clear ho
      simp only [mixF, List.contains_cons, List.contains_nil] at hK ⊢
      simp [depsOf, Region.binds, moreSlots, SK.ok] at hd
      obtain ⟨⟨g, h1, hg, hc⟩, x, h2, hx0, hx1⟩ := hd
      obtain ⟨y, hy, hy0, hy1⟩ := hc x.toNat (by omega)
      have hx2 : x < 4 := by omega
      go_simp
      have := hK (.pointer (some ⟨g, x.toNat, none⟩)) w' (show (SK.to (-10000000) 10000000).ok R _ w' from ⟨g, x.toNat, rfl, hg, y, hy, hy0, hy1⟩) ⟨hI', hI.2⟩ (Upd.refl _ _)
      simpa [Act.put, h1, h2] using this
    · -- operation 20: ld:-10000000:10000000
      clear hi; intro o ho n f w' hn hI hd K hK; have hn' : n < 23 := hn; clear hn; have hI' := hI.1.mono (Nat.le_succ n)
      obtain rfl := Option.some.inj ho
      clear ho
      simp only [mixF, List.contains_cons, List.contains_nil] at hK ⊢
      simp [depsOf, Region.binds, moreSlots, SK.ok] at hd
      obtain ⟨g, i, h1, hg, y, hy, hy0, hy1⟩ := hd
      go_simp
      have := hK (.int .i64 y) w' (show (SK.int (-10000000) 10000000).ok R _ w' from ⟨y, rfl, hy0, hy1⟩) ⟨hI', hI.2⟩ (Upd.refl _ _)
      simpa [Act.put, h1] using this
    · -- operation 21: as
      clear hi; intro o ho n f w' hn hI hd K hK; have hn' : n < 23 := hn; clear hn; have hI' := hI.1.mono (Nat.le_succ n)
      obtain rfl := Option.some.inj ho
      clear ho
      simp only [mixF, List.contains_cons, List.contains_nil] at hK ⊢
      simp [depsOf, Region.binds, moreSlots, SK.ok] at hd
      obtain ⟨⟨x, hx, hx0, hx1⟩, -⟩ := hd
      go_simp
      have := hK (.int .i64 x) w' (show (SK.int (-10000000) 10000000).ok R _ w' from ⟨x, rfl, hx0, hx1⟩) ⟨hI', hI.2⟩ (Upd.refl _ _)
      simpa [Act.put, hx] using this
    · -- operation 22: as
      clear hi; intro o ho n f w' hn hI hd K hK; have hn' : n < 23 := hn; clear hn; have hI' := hI.1.mono (Nat.le_succ n)
      obtain rfl := Option.some.inj ho
      clear ho
      simp only [mixF, List.contains_cons, List.contains_nil] at hK ⊢
      simp [depsOf, Region.binds, moreSlots, SK.ok] at hd
      obtain ⟨⟨x, hx, hx0, hx1⟩, -⟩ := hd
      go_simp
      have := hK (.int .i64 x) w' (show (SK.int (-10000000) 10000000).ok R _ w' from ⟨x, rfl, hx0, hx1⟩) ⟨hI', hI.2⟩ (Upd.refl _ _)
      simpa [Act.put, hx] using this
  · rintro n f wx - ⟨-, hbx⟩ hp
    obtain ⟨x, hx, hx1, hx2⟩ : (SK.int (-10000000) 10000000).ok R (f 2) wx := hp 2 (by simp)
    obtain ⟨y, hy, hy1, hy2⟩ : (SK.int (-10000000) 10000000).ok R (f 3) wx := hp 3 (by simp)
    clear hp hr hb
    simp only [mixF, List.contains_cons, List.contains_nil]
    go_simp
    go_wp2
    go_ret2
    exact ⟨x, y, rfl, hx1, hx2, hy1, hy2, hbx⟩
end Go.Proofs.Ytikcadapbeokoaa

/- The contracts of the draws of chapter 2. -/
import Derived.Test.YtpaeioabmmkheaaDrawStore
namespace Go.Proofs.Ytpaeioabmmkheaa
open Go.RowKit
set_option linter.unusedVariables false
/-- A drawn list of entries. -/
def EntsD (w : World) (e0 : TypeId) (e : Ending) (w' : World) : Prop :=
  ∃ (v : Value) (l : List Ent), e = .returned v ∧ Own w' w.heap.size e0 2 v l.length (flatE l) ∧ WfE l ∧ l.length ≤ 1000 ∧ Below w.heap.size w w'
/-- .. and a number. -/
def EntsID (w : World) (e0 : TypeId) (e : Ending) (w' : World) : Prop :=
  ∃ (v : Value) (l : List Ent) (x : Int), e = .returned (.tuple #[v, .int .i64 x]) ∧ Own w' w.heap.size e0 2 v l.length (flatE l) ∧ WfE l ∧ l.length ≤ 1000 ∧ -10 ≤ x ∧ x ≤ 1000010 ∧ Below w.heap.size w w'
/-- .. and two numbers. -/
def EntsIID (w : World) (e0 : TypeId) (e : Ending) (w' : World) : Prop :=
  ∃ (v : Value) (l : List Ent) (x y : Int), e = .returned (.tuple #[v, .int .i64 x, .int .i64 y]) ∧ Own w' w.heap.size e0 2 v l.length (flatE l) ∧ WfE l ∧ l.length ≤ 1000 ∧ -10 ≤ x ∧ x ≤ 1000010 ∧ -10 ≤ y ∧ y ≤ 1000010 ∧ Below w.heap.size w w'
/-- Two drawn lists of entries. -/
def EntsEntsD (w : World) (e0 : TypeId) (e : Ending) (w' : World) : Prop :=
  ∃ (v v' : Value) (l l' : List Ent), e = .returned (.tuple #[v, v']) ∧ Own w' w.heap.size e0 2 v l.length (flatE l) ∧ WfE l ∧ l.length ≤ 1000 ∧ Own w' w.heap.size e0 2 v' l'.length (flatE l') ∧ WfE l' ∧ l'.length ≤ 2000 ∧ Below w.heap.size w w'
def dvSlots (R : Nat) (v : Value) : Nat → SK
  | 10 => .is (v)
  | 11 => .is (.pointer (some ⟨R, 0, none⟩))
  | 12 => .int 0 31
  | 13 => .lit 3 (-1) 32
  | 14 => .lit 6 0 2
  | 15 => .is (.pointer (some ⟨R, 0, none⟩))
  | 16 => .int 0 5
  | 17 => .to 0 2
  | 18 => .int 0 2
  | 19 => .to (-1) 32
  | 20 => .int (-1) 32
  | 2 => .is (v)
  | 3 => .int (-1) 32
  | _ => .any
set_option maxHeartbeats 4000000 in
theorem drawValueAt_any (a : Option Addr) (len cap : Nat) (z : List Int) (w : World) (h : RowB w a len z) (hlc : len ≤ cap) :
    Calls Try.prog 57 #[.slice a len cap] w (EntsID w 72) := by
  go_enter Try.func57, Try.ntmps57
  go_wp2_with fail
  refine (open_any a len cap z w h hlc).mono ?_; rintro e w1 ⟨R, rfl, hR, hr, hb, hRlt⟩
  clear h hlc
  go_wp2_with fail
  refine (l20Store_any R 0 9 _ hr (by omega) (by omega) (by omega)).mono ?_; rintro e w2 ⟨v, l, rfl, hown, hwf, hlen, hr2, hu2⟩
  have hbs := hb.size
  have hown2 := hown
  have hb2 := hu2.below hb hb.size hR
  have HO := Lib.hid hown2
  clear hr hu2 hown hown2 hb
  have hr := hr2.mono (show 0 + 60 ≤ 60 + 3 * 0 by omega)
  clear hr2
  go_wp2_with fail
  refine wp_region_steps (by kernel_rfl) (fun n w' => Rd w' R (60 + 3 * n) ∧ Upd R w2 w') (fun s u q => (dvSlots R v s).ok R u q) (Upd R) [10, 11, 12, 13, 14, 15, 16, 17, 18, 19, 20, 2, 3] (by kernel_rfl) (by kernel_rfl) (by kernel_rfl) (by kernel_rfl)
    (fun s u q q' => SK.ok_upd _ _ _ _) ⟨hr.drew, (Upd.refl R w2).drew⟩ ?_ ?_
  · intro i hi
    rcases (by have : i < 13 := hi; omega : i = 0 ∨ i = 1 ∨ i = 2 ∨ i = 3 ∨ i = 4 ∨ i = 5 ∨ i = 6 ∨ i = 7 ∨ i = 8 ∨ i = 9 ∨ i = 10 ∨ i = 11 ∨ i = 12) with rfl | rfl | rfl | rfl | rfl | rfl | rfl | rfl | rfl | rfl | rfl | rfl | rfl
    · clear hi; intro o ho n f w' hn hI hd K hK; have hn' : n < 13 := hn; clear hn; have hI' := hI.1.mono (show 60 + 3 * n ≤ 60 + 3 * (n + 1) by omega)
      obtain rfl := Option.some.inj ho
      clear ho
      simp only [mixF, List.contains_cons, List.contains_nil] at hK ⊢
      clear hd
      go_simp
      have := hK (v) w' rfl ⟨hI', hI.2⟩ (Upd.refl _ _)
      simpa [Act.put] using this
    · clear hi; intro o ho n f w' hn hI hd K hK; have hn' : n < 13 := hn; clear hn; have hI' := hI.1.mono (show 60 + 3 * n ≤ 60 + 3 * (n + 1) by omega)
      obtain rfl := Option.some.inj ho
      clear ho
      simp only [mixF, List.contains_cons, List.contains_nil] at hK ⊢
      clear hd
      go_simp
      have := hK (.pointer (some ⟨R, 0, none⟩)) w' rfl ⟨hI', hI.2⟩ (Upd.refl _ _)
      simpa [Act.put] using this
    · clear hi; intro o ho n f w' hn hI hd K hK; have hn' : n < 13 := hn; clear hn; have hI' := hI.1.mono (show 60 + 3 * n ≤ 60 + 3 * (n + 1) by omega)
      obtain rfl := Option.some.inj ho
      clear ho
      simp only [mixF, List.contains_cons, List.contains_nil] at hK ⊢
      have h1 : (SK.is (.pointer (some ⟨R, 0, none⟩))).ok R (f 11) w' := hd 11 (by simp [depsOf, Region.binds])
      have h1' : f 11 = .pointer (some ⟨R, 0, none⟩) := h1
      clear hd h1
      obtain ⟨hr, hb⟩ := hI
      go_simp
      refine (l20Key_any R (60 + 3 * n) _ hr (by omega)).mono ?_
      rintro e w2 ⟨x, rfl, hx0, hx1, hr2, hu⟩
      have := hK (.int .i64 x) w2 (show (SK.int 0 31).ok R (.int .i64 x) w2 from ⟨x, rfl, hx0, by omega⟩) ⟨hr2.mono (by omega), hb.trans hu⟩ hu
      simpa [Act.put, h1'] using this
    · clear hi; intro o ho n f w' hn hI hd K hK; have hn' : n < 13 := hn; clear hn; have hI' := hI.1.mono (show 60 + 3 * n ≤ 60 + 3 * (n + 1) by omega)
      obtain rfl := Option.some.inj ho
      clear ho
      simp only [mixF, List.contains_cons, List.contains_nil] at hK ⊢
      have g0 : (SK.int 0 31).ok R (f 12) w' := hd 12 (by simp [depsOf, Region.binds])
      obtain ⟨x0, hx0, hl0, hh0⟩ := g0
      clear hd
      have hRw := hI.1.lt
      go_simp
      have := hK (.slice (some ⟨w'.heap.size, 0, none⟩) 3 3) (w'.alloc (.cells (([x0, (-1), 32] : List Int).map (Value.int .i64)).toArray 3)) (lit_ok hRw rfl (by intro z hz; simp only [List.mem_cons, List.not_mem_nil, or_false] at hz; omega)) ⟨hI'.alloc _, hI.2.alloc _⟩ ((Upd.refl _ _).alloc _)
      simpa [Act.put, hx0] using this
    · clear hi; intro o ho n f w' hn hI hd K hK; have hn' : n < 13 := hn; clear hn; have hI' := hI.1.mono (show 60 + 3 * n ≤ 60 + 3 * (n + 1) by omega)
      obtain rfl := Option.some.inj ho
      clear ho
      simp only [mixF, List.contains_cons, List.contains_nil] at hK ⊢
      clear hd
      have hRw := hI.1.lt
      go_simp
      have := hK (.slice (some ⟨w'.heap.size, 0, none⟩) 6 6) (w'.alloc (.cells (([0, 0, 0, 0, 1, 2] : List Int).map (Value.int .i64)).toArray 3)) (lit_ok hRw rfl (by intro z hz; simp only [List.mem_cons, List.not_mem_nil, or_false] at hz; omega)) ⟨hI'.alloc _, hI.2.alloc _⟩ ((Upd.refl _ _).alloc _)
      simpa [Act.put] using this
    · clear hi; intro o ho n f w' hn hI hd K hK; have hn' : n < 13 := hn; clear hn; have hI' := hI.1.mono (show 60 + 3 * n ≤ 60 + 3 * (n + 1) by omega)
      obtain rfl := Option.some.inj ho
      clear ho
      simp only [mixF, List.contains_cons, List.contains_nil] at hK ⊢
      clear hd
      go_simp
      have := hK (.pointer (some ⟨R, 0, none⟩)) w' rfl ⟨hI', hI.2⟩ (Upd.refl _ _)
      simpa [Act.put] using this
    · clear hi; intro o ho n f w' hn hI hd K hK; have hn' : n < 13 := hn; clear hn; have hI' := hI.1.mono (show 60 + 3 * n ≤ 60 + 3 * (n + 1) by omega)
      obtain rfl := Option.some.inj ho
      clear ho
      simp only [mixF, List.contains_cons, List.contains_nil] at hK ⊢
      have h1 : (SK.is (.pointer (some ⟨R, 0, none⟩))).ok R (f 15) w' := hd 15 (by simp [depsOf, Region.binds])
      have h1' : f 15 = .pointer (some ⟨R, 0, none⟩) := h1
      clear hd h1
      obtain ⟨hr, hb⟩ := hI
      go_simp
      refine (pick_pos R (60 + 3 * n) 6 _ hr (by omega) (by omega) (by omega)).mono ?_
      rintro e w2 ⟨x, rfl, hx0, hx1, hr2, hu⟩
      have := hK (.int .i64 x) w2 (show (SK.int 0 5).ok R (.int .i64 x) w2 from ⟨x, rfl, hx0, by omega⟩) ⟨hr2.mono (by omega), hb.trans hu⟩ hu
      simpa [Act.put, h1'] using this
    · clear hi; intro o ho n f w' hn hI hd K hK; have hn' : n < 13 := hn; clear hn; have hI' := hI.1.mono (show 60 + 3 * n ≤ 60 + 3 * (n + 1) by omega)
      obtain rfl := Option.some.inj ho
      clear ho
      simp only [mixF, List.contains_cons, List.contains_nil] at hK ⊢
      have h1 : (SK.lit 6 0 2).ok R (f 14) w' := hd 14 (by simp [depsOf, Region.binds])
      have h2 : (SK.int 0 5).ok R (f 16) w' := hd 16 (by simp [depsOf, Region.binds])
      obtain ⟨g, hg1, hg, hc⟩ := h1
      obtain ⟨x, hx, hx0, hx1⟩ := h2
      clear hd
      obtain ⟨y, hy, hy0, hy1⟩ := hc x.toNat (by omega)
      have hx2 : x < 6 := by omega
      go_simp
      have := hK (.pointer (some ⟨g, x.toNat, none⟩)) w' (show (SK.to 0 2).ok R _ w' from ⟨g, x.toNat, rfl, hg, y, hy, hy0, hy1⟩) ⟨hI', hI.2⟩ (Upd.refl _ _)
      simpa [Act.put, hg1, hx] using this
    · clear hi; intro o ho n f w' hn hI hd K hK; have hn' : n < 13 := hn; clear hn; have hI' := hI.1.mono (show 60 + 3 * n ≤ 60 + 3 * (n + 1) by omega)
      obtain rfl := Option.some.inj ho
      clear ho
      simp only [mixF, List.contains_cons, List.contains_nil] at hK ⊢
      have h1 : (SK.to 0 2).ok R (f 17) w' := hd 17 (by simp [depsOf, Region.binds])
      obtain ⟨g, i, hg1, hg, y, hy, hy0, hy1⟩ := h1
      clear hd
      go_simp
      have := hK (.int .i64 y) w' (show (SK.int 0 2).ok R _ w' from ⟨y, rfl, hy0, hy1⟩) ⟨hI', hI.2⟩ (Upd.refl _ _)
      simpa [Act.put, hg1] using this
    · clear hi; intro o ho n f w' hn hI hd K hK; have hn' : n < 13 := hn; clear hn; have hI' := hI.1.mono (show 60 + 3 * n ≤ 60 + 3 * (n + 1) by omega)
      obtain rfl := Option.some.inj ho
      clear ho
      simp only [mixF, List.contains_cons, List.contains_nil] at hK ⊢
      have h1 : (SK.lit 3 (-1) 32).ok R (f 13) w' := hd 13 (by simp [depsOf, Region.binds])
      have h2 : (SK.int 0 2).ok R (f 18) w' := hd 18 (by simp [depsOf, Region.binds])
      obtain ⟨g, hg1, hg, hc⟩ := h1
      obtain ⟨x, hx, hx0, hx1⟩ := h2
      clear hd
      obtain ⟨y, hy, hy0, hy1⟩ := hc x.toNat (by omega)
      have hx2 : x < 3 := by omega
      go_simp
      have := hK (.pointer (some ⟨g, x.toNat, none⟩)) w' (show (SK.to (-1) 32).ok R _ w' from ⟨g, x.toNat, rfl, hg, y, hy, hy0, hy1⟩) ⟨hI', hI.2⟩ (Upd.refl _ _)
      simpa [Act.put, hg1, hx] using this
    · clear hi; intro o ho n f w' hn hI hd K hK; have hn' : n < 13 := hn; clear hn; have hI' := hI.1.mono (show 60 + 3 * n ≤ 60 + 3 * (n + 1) by omega)
      obtain rfl := Option.some.inj ho
      clear ho
      simp only [mixF, List.contains_cons, List.contains_nil] at hK ⊢
      have h1 : (SK.to (-1) 32).ok R (f 19) w' := hd 19 (by simp [depsOf, Region.binds])
      obtain ⟨g, i, hg1, hg, y, hy, hy0, hy1⟩ := h1
      clear hd
      go_simp
      have := hK (.int .i64 y) w' (show (SK.int (-1) 32).ok R _ w' from ⟨y, rfl, hy0, hy1⟩) ⟨hI', hI.2⟩ (Upd.refl _ _)
      simpa [Act.put, hg1] using this
    · clear hi; intro o ho n f w' hn hI hd K hK; have hn' : n < 13 := hn; clear hn; have hI' := hI.1.mono (show 60 + 3 * n ≤ 60 + 3 * (n + 1) by omega)
      obtain rfl := Option.some.inj ho
      clear ho
      simp only [mixF, List.contains_cons, List.contains_nil] at hK ⊢
      have h1 : (SK.is (v)).ok R (f 10) w' := hd 10 (by simp [depsOf, Region.binds])
      have h1' : f 10 = v := h1
      clear hd h1
      go_simp
      have := hK (v) w' rfl ⟨hI', hI.2⟩ (Upd.refl _ _)
      simpa [Act.put, h1'] using this
    · clear hi; intro o ho n f w' hn hI hd K hK; have hn' : n < 13 := hn; clear hn; have hI' := hI.1.mono (show 60 + 3 * n ≤ 60 + 3 * (n + 1) by omega)
      obtain rfl := Option.some.inj ho
      clear ho
      simp only [mixF, List.contains_cons, List.contains_nil] at hK ⊢
      have h1 : (SK.int (-1) 32).ok R (f 20) w' := hd 20 (by simp [depsOf, Region.binds])
      obtain ⟨x, hx, hx0, hx1⟩ := h1
      clear hd
      go_simp
      have := hK (.int .i64 x) w' (show (SK.int (-1) 32).ok R _ w' from ⟨x, rfl, hx0, hx1⟩) ⟨hI', hI.2⟩ (Upd.refl _ _)
      simpa [Act.put, hx] using this
  · rintro n f wx - ⟨-, hux⟩ hp
    have h2 : f 2 = v := hp 2 (by simp)
    obtain ⟨x, h3, hx1, hx2⟩ : (SK.int (-1) 32).ok R (f 3) wx := hp 3 (by simp)
    clear hp hr
    simp only [mixF, List.contains_cons, List.contains_nil]
    go_simp
    go_wp2
    go_ret2
    exact ⟨v, l, x, rfl, (HO.out.grown (row := some R) hux (fun k hk => by simp at hk; omega)).mono hbs, hwf, hlen, by omega, by omega, hux.below hb2 hb2.size hR⟩
def dpSlots (R : Nat) (v : Value) (y : Int) : Nat → SK
  | 22 => .is (v)
  | 23 => .is (.int .i64 y)
  | 24 => .is (.pointer (some ⟨R, 0, none⟩))
  | 25 => .int 0 1000000
  | 26 => .lit 3 (-1) 1000001
  | 27 => .lit 6 0 2
  | 28 => .is (.pointer (some ⟨R, 0, none⟩))
  | 29 => .int 0 5
  | 30 => .to 0 2
  | 31 => .int 0 2
  | 32 => .to (-1) 1000001
  | 33 => .int (-1) 1000001
  | 2 => .is (v)
  | 3 => .is (.int .i64 y)
  | 4 => .int (-1) 1000001
  | _ => .any
set_option maxHeartbeats 4000000 in
theorem drawPutValue_any (a : Option Addr) (len cap : Nat) (z : List Int) (w : World) (h : RowB w a len z) (hlc : len ≤ cap) :
    Calls Try.prog 43 #[.slice a len cap] w (EntsIID w 72) := by
  go_enter Try.func43, Try.ntmps43
  go_wp2_with fail
  refine (open_any a len cap z w h hlc).mono ?_; rintro e w1 ⟨R, rfl, hR, hr, hb, hRlt⟩
  clear h hlc
  go_wp2_with fail
  refine (l20Store_any R 0 9 _ hr (by omega) (by omega) (by omega)).mono ?_; rintro e w2 ⟨v, l, rfl, hown, hwf, hlen, hr2, hu2⟩
  have hbs := hb.size
  have hown2 := hown
  have hb2 := hu2.below hb hb.size hR
  clear hr hu2 hown hb
  go_wp2_with fail
  refine (l20Key_any R _ _ hr2 (by omega)).mono ?_; rintro e w3 ⟨x1, rfl, hx0, hx1, hr3, hu3⟩
  go_wp2_with fail
  refine (pick_pos R _ 6 _ ((hr3.alloc _).alloc _) (by omega) (by omega) (by omega)).mono ?_; rintro e w4 ⟨x3, rfl, hz0, hz1, hr4, hu4⟩
  have hRb := hr3.lt
  have hcell : ∃ y, w4.cell? ⟨w3.heap.size + 1, x3.toNat, none⟩ = some (.int .i64 y) ∧ 0 ≤ y ∧ y < 3 := by
    rcases (by omega : x3 = 0 ∨ x3 = 1 ∨ x3 = 2 ∨ x3 = 3 ∨ x3 = 4 ∨ x3 = 5) with rfl | rfl | rfl | rfl | rfl | rfl <;> exact ⟨_, hu4.cell (by simp [go_sem]; rfl) (by omega), by omega, by omega⟩
  obtain ⟨q, hq, hq2, hq3⟩ := hcell
  have hcell : ∃ y, w4.cell? ⟨w3.heap.size, q.toNat, none⟩ = some (.int .i64 y) ∧ -1 ≤ y ∧ y ≤ 32 := by
    rcases (by omega : q = 0 ∨ q = 1 ∨ q = 2) with rfl | rfl | rfl <;> exact ⟨_, hu4.cell (by simp [go_sem]; rfl) (by omega), by omega, by omega⟩
  obtain ⟨y, hy, hy2, hy3⟩ := hcell
  have hu := hu3.trans ((((Upd.refl R w3).alloc _).alloc _).trans hu4)
  have hown4 := hown2.grown (row := some R) hu (fun k hk => by simp at hk; omega)
  have hb4 := hu.below hb2 hb2.size hR
  have HO := Lib.hid hown4
  clear hu hu3 hu4 hown2 hown4 hb2 hr2 hr3
  have hr := hr4.mono (show 0 + 60 + 3 + 1 ≤ 66 + 3 * 0 by omega)
  clear hr4
  go_wp2_with fail
  refine wp_region_steps (by kernel_rfl) (fun n w' => Rd w' R (66 + 3 * n) ∧ Upd R w4 w') (fun s u q => (dpSlots R v y s).ok R u q) (Upd R) [22, 23, 24, 25, 26, 27, 28, 29, 30, 31, 32, 33, 2, 3, 4] (by kernel_rfl) (by kernel_rfl) (by kernel_rfl) (by kernel_rfl)
    (fun s u q q' => SK.ok_upd _ _ _ _) ⟨hr.drew, (Upd.refl R w4).drew⟩ ?_ ?_
  · intro i hi
    rcases (by have : i < 15 := hi; omega : i = 0 ∨ i = 1 ∨ i = 2 ∨ i = 3 ∨ i = 4 ∨ i = 5 ∨ i = 6 ∨ i = 7 ∨ i = 8 ∨ i = 9 ∨ i = 10 ∨ i = 11 ∨ i = 12 ∨ i = 13 ∨ i = 14) with rfl | rfl | rfl | rfl | rfl | rfl | rfl | rfl | rfl | rfl | rfl | rfl | rfl | rfl | rfl
    · clear hi; intro o ho n f w' hn hI hd K hK; have hn' : n < 15 := hn; clear hn; have hI' := hI.1.mono (show 66 + 3 * n ≤ 66 + 3 * (n + 1) by omega)
      obtain rfl := Option.some.inj ho
      clear ho
      simp only [mixF, List.contains_cons, List.contains_nil] at hK ⊢
      clear hd
      go_simp
      have := hK (v) w' rfl ⟨hI', hI.2⟩ (Upd.refl _ _)
      simpa [Act.put] using this
    · clear hi; intro o ho n f w' hn hI hd K hK; have hn' : n < 15 := hn; clear hn; have hI' := hI.1.mono (show 66 + 3 * n ≤ 66 + 3 * (n + 1) by omega)
      obtain rfl := Option.some.inj ho
      clear ho
      simp only [mixF, List.contains_cons, List.contains_nil] at hK ⊢
      clear hd
      go_simp
      have := hK (.int .i64 y) w' rfl ⟨hI', hI.2⟩ (Upd.refl _ _)
      simpa [Act.put] using this
    · clear hi; intro o ho n f w' hn hI hd K hK; have hn' : n < 15 := hn; clear hn; have hI' := hI.1.mono (show 66 + 3 * n ≤ 66 + 3 * (n + 1) by omega)
      obtain rfl := Option.some.inj ho
      clear ho
      simp only [mixF, List.contains_cons, List.contains_nil] at hK ⊢
      clear hd
      go_simp
      have := hK (.pointer (some ⟨R, 0, none⟩)) w' rfl ⟨hI', hI.2⟩ (Upd.refl _ _)
      simpa [Act.put] using this
    · clear hi; intro o ho n f w' hn hI hd K hK; have hn' : n < 15 := hn; clear hn; have hI' := hI.1.mono (show 66 + 3 * n ≤ 66 + 3 * (n + 1) by omega)
      obtain rfl := Option.some.inj ho
      clear ho
      simp only [mixF, List.contains_cons, List.contains_nil] at hK ⊢
      have h1 : (SK.is (.pointer (some ⟨R, 0, none⟩))).ok R (f 24) w' := hd 24 (by simp [depsOf, Region.binds])
      have h1' : f 24 = .pointer (some ⟨R, 0, none⟩) := h1
      clear hd h1
      obtain ⟨hr, hb⟩ := hI
      go_simp
      refine (l20Value_any R (66 + 3 * n) _ hr (by omega)).mono ?_
      rintro e w2 ⟨x, rfl, hx0, hx1, hr2, hu⟩
      have := hK (.int .i64 x) w2 (show (SK.int 0 1000000).ok R (.int .i64 x) w2 from ⟨x, rfl, hx0, by omega⟩) ⟨hr2.mono (by omega), hb.trans hu⟩ hu
      simpa [Act.put, h1'] using this
    · clear hi; intro o ho n f w' hn hI hd K hK; have hn' : n < 15 := hn; clear hn; have hI' := hI.1.mono (show 66 + 3 * n ≤ 66 + 3 * (n + 1) by omega)
      obtain rfl := Option.some.inj ho
      clear ho
      simp only [mixF, List.contains_cons, List.contains_nil] at hK ⊢
      have g0 : (SK.int 0 1000000).ok R (f 25) w' := hd 25 (by simp [depsOf, Region.binds])
      obtain ⟨x0, hx0, hl0, hh0⟩ := g0
      clear hd
      have hRw := hI.1.lt
      go_simp
      have := hK (.slice (some ⟨w'.heap.size, 0, none⟩) 3 3) (w'.alloc (.cells (([x0, (-1), 1000001] : List Int).map (Value.int .i64)).toArray 3)) (lit_ok hRw rfl (by intro z hz; simp only [List.mem_cons, List.not_mem_nil, or_false] at hz; omega)) ⟨hI'.alloc _, hI.2.alloc _⟩ ((Upd.refl _ _).alloc _)
      simpa [Act.put, hx0] using this
    · clear hi; intro o ho n f w' hn hI hd K hK; have hn' : n < 15 := hn; clear hn; have hI' := hI.1.mono (show 66 + 3 * n ≤ 66 + 3 * (n + 1) by omega)
      obtain rfl := Option.some.inj ho
      clear ho
      simp only [mixF, List.contains_cons, List.contains_nil] at hK ⊢
      clear hd
      have hRw := hI.1.lt
      go_simp
      have := hK (.slice (some ⟨w'.heap.size, 0, none⟩) 6 6) (w'.alloc (.cells (([0, 0, 0, 0, 1, 2] : List Int).map (Value.int .i64)).toArray 3)) (lit_ok hRw rfl (by intro z hz; simp only [List.mem_cons, List.not_mem_nil, or_false] at hz; omega)) ⟨hI'.alloc _, hI.2.alloc _⟩ ((Upd.refl _ _).alloc _)
      simpa [Act.put] using this
    · clear hi; intro o ho n f w' hn hI hd K hK; have hn' : n < 15 := hn; clear hn; have hI' := hI.1.mono (show 66 + 3 * n ≤ 66 + 3 * (n + 1) by omega)
      obtain rfl := Option.some.inj ho
      clear ho
      simp only [mixF, List.contains_cons, List.contains_nil] at hK ⊢
      clear hd
      go_simp
      have := hK (.pointer (some ⟨R, 0, none⟩)) w' rfl ⟨hI', hI.2⟩ (Upd.refl _ _)
      simpa [Act.put] using this
    · clear hi; intro o ho n f w' hn hI hd K hK; have hn' : n < 15 := hn; clear hn; have hI' := hI.1.mono (show 66 + 3 * n ≤ 66 + 3 * (n + 1) by omega)
      obtain rfl := Option.some.inj ho
      clear ho
      simp only [mixF, List.contains_cons, List.contains_nil] at hK ⊢
      have h1 : (SK.is (.pointer (some ⟨R, 0, none⟩))).ok R (f 28) w' := hd 28 (by simp [depsOf, Region.binds])
      have h1' : f 28 = .pointer (some ⟨R, 0, none⟩) := h1
      clear hd h1
      obtain ⟨hr, hb⟩ := hI
      go_simp
      refine (pick_pos R (66 + 3 * n) 6 _ hr (by omega) (by omega) (by omega)).mono ?_
      rintro e w2 ⟨x, rfl, hx0, hx1, hr2, hu⟩
      have := hK (.int .i64 x) w2 (show (SK.int 0 5).ok R (.int .i64 x) w2 from ⟨x, rfl, hx0, by omega⟩) ⟨hr2.mono (by omega), hb.trans hu⟩ hu
      simpa [Act.put, h1'] using this
    · clear hi; intro o ho n f w' hn hI hd K hK; have hn' : n < 15 := hn; clear hn; have hI' := hI.1.mono (show 66 + 3 * n ≤ 66 + 3 * (n + 1) by omega)
      obtain rfl := Option.some.inj ho
      clear ho
      simp only [mixF, List.contains_cons, List.contains_nil] at hK ⊢
      have h1 : (SK.lit 6 0 2).ok R (f 27) w' := hd 27 (by simp [depsOf, Region.binds])
      have h2 : (SK.int 0 5).ok R (f 29) w' := hd 29 (by simp [depsOf, Region.binds])
      obtain ⟨g, hg1, hg, hc⟩ := h1
      obtain ⟨x, hx, hx0, hx1⟩ := h2
      clear hd
      obtain ⟨y, hy, hy0, hy1⟩ := hc x.toNat (by omega)
      have hx2 : x < 6 := by omega
      go_simp
      have := hK (.pointer (some ⟨g, x.toNat, none⟩)) w' (show (SK.to 0 2).ok R _ w' from ⟨g, x.toNat, rfl, hg, y, hy, hy0, hy1⟩) ⟨hI', hI.2⟩ (Upd.refl _ _)
      simpa [Act.put, hg1, hx] using this
    · clear hi; intro o ho n f w' hn hI hd K hK; have hn' : n < 15 := hn; clear hn; have hI' := hI.1.mono (show 66 + 3 * n ≤ 66 + 3 * (n + 1) by omega)
      obtain rfl := Option.some.inj ho
      clear ho
      simp only [mixF, List.contains_cons, List.contains_nil] at hK ⊢
      have h1 : (SK.to 0 2).ok R (f 30) w' := hd 30 (by simp [depsOf, Region.binds])
      obtain ⟨g, i, hg1, hg, y, hy, hy0, hy1⟩ := h1
      clear hd
      go_simp
      have := hK (.int .i64 y) w' (show (SK.int 0 2).ok R _ w' from ⟨y, rfl, hy0, hy1⟩) ⟨hI', hI.2⟩ (Upd.refl _ _)
      simpa [Act.put, hg1] using this
    · clear hi; intro o ho n f w' hn hI hd K hK; have hn' : n < 15 := hn; clear hn; have hI' := hI.1.mono (show 66 + 3 * n ≤ 66 + 3 * (n + 1) by omega)
      obtain rfl := Option.some.inj ho
      clear ho
      simp only [mixF, List.contains_cons, List.contains_nil] at hK ⊢
      have h1 : (SK.lit 3 (-1) 1000001).ok R (f 26) w' := hd 26 (by simp [depsOf, Region.binds])
      have h2 : (SK.int 0 2).ok R (f 31) w' := hd 31 (by simp [depsOf, Region.binds])
      obtain ⟨g, hg1, hg, hc⟩ := h1
      obtain ⟨x, hx, hx0, hx1⟩ := h2
      clear hd
      obtain ⟨y, hy, hy0, hy1⟩ := hc x.toNat (by omega)
      have hx2 : x < 3 := by omega
      go_simp
      have := hK (.pointer (some ⟨g, x.toNat, none⟩)) w' (show (SK.to (-1) 1000001).ok R _ w' from ⟨g, x.toNat, rfl, hg, y, hy, hy0, hy1⟩) ⟨hI', hI.2⟩ (Upd.refl _ _)
      simpa [Act.put, hg1, hx] using this
    · clear hi; intro o ho n f w' hn hI hd K hK; have hn' : n < 15 := hn; clear hn; have hI' := hI.1.mono (show 66 + 3 * n ≤ 66 + 3 * (n + 1) by omega)
      obtain rfl := Option.some.inj ho
      clear ho
      simp only [mixF, List.contains_cons, List.contains_nil] at hK ⊢
      have h1 : (SK.to (-1) 1000001).ok R (f 32) w' := hd 32 (by simp [depsOf, Region.binds])
      obtain ⟨g, i, hg1, hg, y, hy, hy0, hy1⟩ := h1
      clear hd
      go_simp
      have := hK (.int .i64 y) w' (show (SK.int (-1) 1000001).ok R _ w' from ⟨y, rfl, hy0, hy1⟩) ⟨hI', hI.2⟩ (Upd.refl _ _)
      simpa [Act.put, hg1] using this
    · clear hi; intro o ho n f w' hn hI hd K hK; have hn' : n < 15 := hn; clear hn; have hI' := hI.1.mono (show 66 + 3 * n ≤ 66 + 3 * (n + 1) by omega)
      obtain rfl := Option.some.inj ho
      clear ho
      simp only [mixF, List.contains_cons, List.contains_nil] at hK ⊢
      have h1 : (SK.is (v)).ok R (f 22) w' := hd 22 (by simp [depsOf, Region.binds])
      have h1' : f 22 = v := h1
      clear hd h1
      go_simp
      have := hK (v) w' rfl ⟨hI', hI.2⟩ (Upd.refl _ _)
      simpa [Act.put, h1'] using this
    · clear hi; intro o ho n f w' hn hI hd K hK; have hn' : n < 15 := hn; clear hn; have hI' := hI.1.mono (show 66 + 3 * n ≤ 66 + 3 * (n + 1) by omega)
      obtain rfl := Option.some.inj ho
      clear ho
      simp only [mixF, List.contains_cons, List.contains_nil] at hK ⊢
      have h1 : (SK.is (.int .i64 y)).ok R (f 23) w' := hd 23 (by simp [depsOf, Region.binds])
      have h1' : f 23 = .int .i64 y := h1
      clear hd h1
      go_simp
      have := hK (.int .i64 y) w' rfl ⟨hI', hI.2⟩ (Upd.refl _ _)
      simpa [Act.put, h1'] using this
    · clear hi; intro o ho n f w' hn hI hd K hK; have hn' : n < 15 := hn; clear hn; have hI' := hI.1.mono (show 66 + 3 * n ≤ 66 + 3 * (n + 1) by omega)
      obtain rfl := Option.some.inj ho
      clear ho
      simp only [mixF, List.contains_cons, List.contains_nil] at hK ⊢
      have h1 : (SK.int (-1) 1000001).ok R (f 33) w' := hd 33 (by simp [depsOf, Region.binds])
      obtain ⟨x, hx, hx0, hx1⟩ := h1
      clear hd
      go_simp
      have := hK (.int .i64 x) w' (show (SK.int (-1) 1000001).ok R _ w' from ⟨x, rfl, hx0, hx1⟩) ⟨hI', hI.2⟩ (Upd.refl _ _)
      simpa [Act.put, hx] using this
  · rintro n f wx - ⟨-, hux⟩ hp
    have h2 : f 2 = v := hp 2 (by simp)
    have h3 : f 3 = .int .i64 y := hp 3 (by simp)
    obtain ⟨x, h4, hx1, hx2⟩ : (SK.int (-1) 1000001).ok R (f 4) wx := hp 4 (by simp)
    clear hp hr
    simp only [mixF, List.contains_cons, List.contains_nil]
    go_simp
    go_wp2
    go_ret3
    exact ⟨v, l, y, x, rfl, (HO.out.grown (row := some R) hux (fun k hk => by simp at hk; omega)).mono hbs, hwf, hlen, by omega, by omega, by omega, by omega, hux.below hb4 hb4.size hR⟩
end Go.Proofs.Ytpaeioabmmkheaa

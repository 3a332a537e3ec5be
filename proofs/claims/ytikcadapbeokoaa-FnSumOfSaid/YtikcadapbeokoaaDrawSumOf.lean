/- The contract of spec.DrawSumOf: a tag and a list of numbers. -/
import Derived.Test.YtikcadapbeokoaaPick
namespace Go.Proofs.Ytikcadapbeokoaa
open Go.RowKit
theorem infoIntD : (Try.prog.info? 3).map (fun i => (i.zero, i.size, i.bytes)) = some (some (.int .i64 0), 1, 8) := by kernel_rfl
/-- A number and a list in memory of the call's own, at most 100 long. -/
def IntAndList (w : World) (e : Ending) (w' : World) : Prop :=
  ∃ (x : Int) (a : Addr) (n cap : Nat) (l : List Int), e = .returned (.tuple #[.int .i64 x, .slice (some a) n cap]) ∧ -10000000 ≤ x ∧ x ≤ 10000000 ∧ n ≤ 100 ∧ RowI w' (some a) n l ∧ Below w.heap.size w w'
/-- The list that grows: owned from the block B on; numbers that fit. -/
def Grows (w : World) (B : Nat) (v : Value) (n : Nat) : Prop := ∃ l : List Int, l.length = n ∧ w.ownsRow B 3 1 v n (l.map (Value.int .i64)) ∧ (∀ x ∈ l, (Lit.int .i64 x).wf = true) ∧ v ≠ .slice none 0 0
theorem Grows.upd {w w' : World} {B n R : Nat} {v : Value} (h : Grows w B v n) (hu : Upd R w w') (hR : R < B) : Grows w' B v n := by
  obtain ⟨l, h1, h2, h3, h4⟩ := h
  refine ⟨l, h1, h2.kept hu ?_, h3, h4⟩
  rcases hv : v.ownBlock with _ | k
  · exact .inl rfl
  · have := (h2.lt k hv).1
    exact .inr (by simp; omega)
theorem Grows.alloc {w : World} {B n : Nat} {v : Value} (h : Grows w B v n) (o : Obj) : Grows (w.alloc o) B v n := by
  obtain ⟨l, h1, h2, h3, h4⟩ := h; exact ⟨l, h1, h2.alloc o, h3, h4⟩
set_option maxHeartbeats 2000000 in
theorem drawSumOf_any (a : Option Addr) (len cap : Nat) (z : List Int) (w : World) (h : RowB w a len z) (hlc : len ≤ cap) :
    Calls Try.prog 7 #[.slice a len cap] w (IntAndList w) := by
  obtain ⟨i0, hi, hz0, hz1, hz2⟩ := info_parts infoIntD
  go_enter Try.func7, Try.ntmps7
  go_wp2_with fail
  refine (open_any a len cap z w h hlc).mono ?_
  rintro e w1 ⟨R, rfl, hR, hr, hb, hRlt⟩
  clear h hlc
  go_wp2_with fail
  refine (pick_pos R 0 _ _ (hr.alloc _) (by omega) (by omega) (by omega)).mono ?_
  rintro e w2 ⟨x, rfl, hx0, hx1, hr2, hu2⟩
  go_wp2_with fail
  have hg0 : Grows w2 (R + 1) (.slice (some ⟨w1.heap.size, 0, none⟩) 0 0) 0 := by
    refine Grows.upd ⟨[], rfl, ?_, fun x hx => (by cases hx), by simp⟩ hu2 (by omega)
    exact World.ownsRow_lit (w := w1) (base := R + 1) (e := 3) (size := 1) #[] 0 (by omega) (by simp) rfl
  have hb2 : Below w.heap.size w w2 := hu2.below (hb.alloc hb.size _) (by have := hb.size; simp; omega) hR
  obtain ⟨k0, hk0⟩ : ∃ k0 : Nat, x = (k0 : Int) := ⟨x.toNat, by omega⟩
  subst hk0
  clear hu2 hr hb hRlt
  go_loopw [5, 6] (fun v i wr => ∃ k n : Nat, k ≤ 7 ∧ n + k ≤ 7 ∧ i = .int .i64 k ∧ Grows wr (R + 1) v n ∧ Rd wr R (1 + 3 * n) ∧ Below w.heap.size w wr) (fun _ i _ => (intOf i).toNat)
  case atStart => exact ⟨k0, 0, by omega, by omega, rfl, hg0, hr2, hb2⟩
  case round =>
    obtain ⟨k, n, hk, hnk, rfl, hg, hr, hb⟩ := hrel
    clear hg0 hr2 hb2
    by_cases hlt : 0 < k
    · go_wp2_with fail
      refine (pick_pos R _ _ _ hr (by omega) (by omega) (by omega)).mono ?_
      rintro e wa ⟨x1, rfl, hx0, hx1, hra, hua⟩
      go_wp2_with fail
      refine (pick_pos R _ _ _ hra (by omega) (by omega) (by omega)).mono ?_
      rintro e wb ⟨x2, rfl, hy0, hy1, hrb, hub⟩
      go_wp2_with fail
      refine (pick_pos R _ _ _ (hrb.alloc _) (by omega) (by omega) (by omega)).mono ?_
      rintro e wc ⟨x3, rfl, hz3, hz4, hrc, huc⟩
      have hRb := hrb.lt
      have hcell : ∃ y, wc.cell? ⟨wb.heap.size, x3.toNat, none⟩ = some (.int .i64 y) ∧ -10000000 ≤ y ∧ y ≤ 10000000 := by
        rcases (by omega : x3 = 0 ∨ x3 = 1 ∨ x3 = 2) with rfl | rfl | rfl
        · exact ⟨_, huc.cell (by simp [go_sem]; rfl) (by omega), by omega, by omega⟩
        · exact ⟨_, huc.cell (by simp [go_sem]; rfl) (by omega), by omega, by omega⟩
        · exact ⟨_, huc.cell (by simp [go_sem]; rfl) (by omega), by omega, by omega⟩
      obtain ⟨y, hy, hyl, hyu⟩ := hcell
      have hgc := (((hg.upd hua (by omega)).upd hub (by omega)).alloc _).upd huc (by omega)
      have hbc : Below w.heap.size w wc := huc.below ((hub.below (hua.below hb hb.size hR) (Nat.le_trans hb.size hua.size) hR).alloc (Nat.le_trans hb.size (Nat.le_trans hua.size hub.size)) _) (by have := hb.size; have := hua.size; have := hub.size; simp; omega) hR
      obtain ⟨l, hl1, hown, hl3, hl4⟩ := hgc
      have HNn := Lib.hid hl4; clear hl4
      clear hua hub huc hra hrb hr hb hg hx0 hx1 hy0 hy1
      have HL := Lib.hid hl3
      have HN := Lib.hid hl1
      clear hl3 hl1
      have hRc := hrc.lt
      go_wp2_with (at_builtin; refine wpList_append_own _ rfl _ _ 23 rfl (R + 1) 3 i0 (.int .i64 0) 1 8 Try.underlying23 hi hz0 hz1 hz2 rfl (by decide) _ _ _ rfl (hown.alloc _) ⟨wc.heap.size, 0, none⟩ 1 1 [.int .i64 y] rfl rfl ?c1 ?c2 ?c3 ?c4 ?c5 ?_)
      case c1 =>
        intro j u hj
        match j, hj with
        | 0, hj => simp at hj; subst hj; simp [Addr.add]
      case c2 => intro u hu; simp at hu; subst hu; rfl
      case c3 => unfold maxLen; omega
      case c4 => omega
      case c5 => simp; omega
      intro v' wd hown' hgrow hnn
      have hgd : Grows wd (R + 1) v' (n + 1) := ⟨l ++ [y], by simp [HN.out], by simpa using hown', fun x hx => by
        rcases List.mem_append.1 hx with h | h
        · exact HL.out x h
        · simp at h; subst h; exact WalkArith.wf_i64 (by omega), hnn⟩
      have hrd : Rd wd R (1 + 3 * (n + 1)) := (Rd.grown (hrc.alloc _) hgrow (fun k hk => by have := (hown.lt k hk).1; omega)).mono (by omega)
      have hbd : Below w.heap.size w wd := (hbc.alloc (by have := hbc.size; omega) _).grown hgrow (by have := hbc.size; simp; omega) (fun k hk => by have := (hown.lt k hk).1; omega)
      clear hown' hgrow hown hrc hbc hy hnn
      go_wp2
      go_roundw
      case rel => exact ⟨k - 1, n + 1, by omega, by omega, by congr 1; omega, hgd, hrd, hbd⟩
      case measure => simp [intOf]; omega
    · obtain rfl : k = 0 := by omega
      have hn7 : n ≤ 7 := by omega
      clear hnk hlt hk
      go_wp2_with fail
      refine (odd_any R _ _ _ hr (by omega) (by omega) (by omega)).mono ?_
      rintro e wo ⟨ob, rfl, hro, huo⟩
      have hgo := hg.upd huo (by omega)
      have hbo := huo.below hb hb.size hR
      clear hr hb hg huo
      cases ob with
      | false =>
        go_wp2_with fail
        refine (pick_pos R _ _ _ hro (by omega) (by omega) (by omega)).mono ?_
        rintro e wx ⟨x5, rfl, hp0, hp1, hrx, hux⟩
        go_wp2_with fail
        refine (pick_pos R _ _ _ hrx (by omega) (by omega) (by omega)).mono ?_
        rintro e wy ⟨x6, rfl, hq0, hq1, hry, huy⟩
        go_wp2
        go_ret2
        obtain ⟨l, hl1, hown, hl3, hl4⟩ := (hgo.upd hux (by omega)).upd huy (by omega)
        obtain ⟨a', cap', hv, hri⟩ := rowI_of_owns_some hown (by unfold maxLen; omega) hl3 hl4
        rw [hv]
        exact ⟨_, a', _, cap', l, rfl, by omega, by omega, by omega, hri, huy.below (hux.below hbo hbo.size hR) (Nat.le_trans hbo.size hux.size) hR⟩
      | true =>
        go_wp2_with fail
        have hRo := hro.lt
        refine (pick_pos R _ _ _ (hro.alloc _) (by omega) (by omega) (by omega)).mono ?_
        rintro e wc ⟨x3, rfl, hz3, hz4, hrc, huc⟩
        have hcell : ∃ y, wc.cell? ⟨wo.heap.size, x3.toNat, none⟩ = some (.int .i64 y) ∧ -10000000 ≤ y ∧ y ≤ 10000000 := by
          rcases (by omega : x3 = 0 ∨ x3 = 1) with rfl | rfl
          · exact ⟨_, huc.cell (by simp [go_sem]; rfl) (by omega), by omega, by omega⟩
          · exact ⟨_, huc.cell (by simp [go_sem]; rfl) (by omega), by omega, by omega⟩
        obtain ⟨y, hy, hyl, hyu⟩ := hcell
        have hgc := (hgo.alloc _).upd huc (by omega)
        have hbc : Below w.heap.size w wc := huc.below (hbo.alloc hbo.size _) (by have := hbo.size; simp; omega) hR
        obtain ⟨l, hl1, hown, hl3, hl4⟩ := hgc
        have HNn := Lib.hid hl4; clear hl4
        clear huc hro hbo hgo
        have HL := Lib.hid hl3
        have HN := Lib.hid hl1
        clear hl3 hl1
        have hRc := hrc.lt
        go_wp2_with (first | (at_builtin; refine wpList_append_own _ rfl _ _ 23 rfl (R + 1) 3 i0 (.int .i64 0) 1 8 Try.underlying23 hi hz0 hz1 hz2 rfl (by decide) _ _ _ rfl (hown.alloc _) ⟨wc.heap.size, 0, none⟩ 1 1 [.int .i64 y] rfl rfl ?c1 ?c2 ?c3 ?c4 ?c5 ?_) | fail)
        case c1 =>
          intro j u hj
          match j, hj with
          | 0, hj => simp at hj; subst hj; simp [Addr.add]
        case c2 => intro u hu; simp at hu; subst hu; rfl
        case c3 => unfold maxLen; omega
        case c4 => omega
        case c5 => simp; omega
        intro v' wd hown' hgrow hnn
        have hgd : Grows wd (R + 1) v' (n + 1) := ⟨l ++ [y], by simp [HN.out], by simpa using hown', fun x hx => by
          rcases List.mem_append.1 hx with h | h
          · exact HL.out x h
          · simp at h; subst h; exact WalkArith.wf_i64 (by omega), hnn⟩
        have hrd : Rd wd R (1 + 3 * n + 1 + 1) := (Rd.grown (hrc.alloc _) hgrow (fun k hk => by have := (hown.lt k hk).1; omega))
        have hbd : Below w.heap.size w wd := (hbc.alloc (by have := hbc.size; omega) _).grown hgrow (by have := hbc.size; simp; omega) (fun k hk => by have := (hown.lt k hk).1; omega)
        clear hown' hgrow hown hrc hbc hy hnn
        go_wp2_with fail
        refine (pick_pos R _ _ _ hrd (by omega) (by omega) (by omega)).mono ?_
        rintro e wx ⟨x5, rfl, hp0, hp1, hrx, hux⟩
        go_wp2_with fail
        refine (pick_pos R _ _ _ hrx (by omega) (by omega) (by omega)).mono ?_
        rintro e wy ⟨x6, rfl, hq0, hq1, hry, huy⟩
        go_wp2
        go_ret2
        obtain ⟨l, hl1, hown, hl3, hl4⟩ := (hgd.upd hux (by omega)).upd huy (by omega)
        obtain ⟨a', cap', hv, hri⟩ := rowI_of_owns_some hown (by unfold maxLen; omega) hl3 hl4
        rw [hv]
        exact ⟨_, a', _, cap', l, rfl, by omega, by omega, by omega, hri, huy.below (hux.below hbd hbd.size hR) (Nat.le_trans hbd.size hux.size) hR⟩
end Go.Proofs.Ytikcadapbeokoaa

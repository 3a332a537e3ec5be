/- The contracts of the draws of a key, a value and a store. -/
import Derived.Test.YtpaeioabmmkheaaPick
import Derived.Test.YtpaeioabmmkheaaSpecStore
import Derived.Test.YtpaeioabmmkheaaRegionInv
namespace Go.Proofs.Ytpaeioabmmkheaa
open Go.RowKit
set_option linter.unusedVariables false
/-- A number in lo..hi; the reader has read at most c places more; nothing else has turned. -/
def DrawI (w : World) (R P c : Nat) (lo hi : Int) (e : Ending) (w' : World) : Prop :=
  ∃ x : Int, e = .returned (.int .i64 x) ∧ lo ≤ x ∧ x ≤ hi ∧ Rd w' R (P + c) ∧ Upd R w w'
set_option maxHeartbeats 1000000 in
theorem l20Key_any (R P : Nat) (w : World) (h : Rd w R P) (hP : P ≤ 900000) :
    Calls Try.prog 66 #[.pointer (some ⟨R, 0, none⟩)] w (DrawI w R P 3 0 31) := by
  go_enter Try.func66, Try.ntmps66
  go_wp2_with fail
  refine (pick_pos R P 5 _ h (by omega) (by omega) (by omega)).mono ?_; rintro e w1 ⟨x1, rfl, hx0, hx1, hr1, hu1⟩
  go_wp2_with fail
  refine (pick_pos R _ 32 _ hr1 (by omega) (by omega) (by omega)).mono ?_; rintro e w2 ⟨x2, rfl, hy0, hy1, hr2, hu2⟩
  go_wp2_with fail
  refine (pick_pos R _ 4 _ (hr2.alloc _) (by omega) (by omega) (by omega)).mono ?_; rintro e w3 ⟨x3, rfl, hz0, hz1, hr3, hu3⟩
  have hRb := hr2.lt
  have hcell : ∃ y, w3.cell? ⟨w2.heap.size, (x3 / 3).toNat, none⟩ = some (.int .i64 y) ∧ 0 ≤ y ∧ y ≤ 31 := by
    rcases (by omega : x3 / 3 = 0 ∨ x3 / 3 = 1) with h | h
    · rw [h]; exact ⟨_, hu3.cell (by simp [go_sem]; rfl) (by omega), by omega, by omega⟩
    · rw [h]; exact ⟨_, hu3.cell (by simp [go_sem]; rfl) (by omega), by omega, by omega⟩
  obtain ⟨y, hy, hy2, hy3⟩ := hcell
  have hu := (hu1.trans hu2).trans (((Upd.refl R w2).alloc _).trans hu3)
  have hq0 : 0 ≤ x3 / 3 := by omega
  have hq1 : x3 / 3 < 2 := by omega
  clear hu1 hu2 hu3 hr1 hr2
  go_wp2
  go_ret
  exact ⟨y, rfl, hy2, hy3, hr3, hu⟩
set_option maxHeartbeats 1000000 in
theorem l20Value_any (R P : Nat) (w : World) (h : Rd w R P) (hP : P ≤ 900000) :
    Calls Try.prog 67 #[.pointer (some ⟨R, 0, none⟩)] w (DrawI w R P 3 0 1000000) := by
  go_enter Try.func67, Try.ntmps67
  go_wp2_with fail
  refine (pick_pos R P 12 _ h (by omega) (by omega) (by omega)).mono ?_; rintro e w1 ⟨x1, rfl, hx0, hx1, hr1, hu1⟩
  go_wp2_with fail
  refine (pick_pos R _ 256 _ hr1 (by omega) (by omega) (by omega)).mono ?_; rintro e w2 ⟨x2, rfl, hy0, hy1, hr2, hu2⟩
  go_wp2_with fail
  refine (pick_pos R _ 7 _ ((hr2.alloc _).alloc _) (by omega) (by omega) (by omega)).mono ?_; rintro e w3 ⟨x3, rfl, hz0, hz1, hr3, hu3⟩
  have hRb := hr2.lt
  have hcell : ∃ y, w3.cell? ⟨w2.heap.size + 1, x3.toNat, none⟩ = some (.int .i64 y) ∧ 0 ≤ y ∧ y < 5 := by
    rcases (by omega : x3 = 0 ∨ x3 = 1 ∨ x3 = 2 ∨ x3 = 3 ∨ x3 = 4 ∨ x3 = 5 ∨ x3 = 6) with rfl | rfl | rfl | rfl | rfl | rfl | rfl <;> exact ⟨_, hu3.cell (by simp [go_sem]; rfl) (by omega), by omega, by omega⟩
  obtain ⟨y, hy, hy2, hy3⟩ := hcell
  have hcell : ∃ u, w3.cell? ⟨w2.heap.size, y.toNat, none⟩ = some (.int .i64 u) ∧ 0 ≤ u ∧ u ≤ 1000000 := by
    rcases (by omega : y = 0 ∨ y = 1 ∨ y = 2 ∨ y = 3 ∨ y = 4) with rfl | rfl | rfl | rfl | rfl <;> exact ⟨_, hu3.cell (by simp [go_sem]; rfl) (by omega), by omega, by omega⟩
  obtain ⟨u, hu0, hu4, hu5⟩ := hcell
  have hu := (hu1.trans hu2).trans ((((Upd.refl R w2).alloc _).alloc _).trans hu3)
  clear hu1 hu2 hu3 hr1 hr2
  go_wp2
  go_ret
  exact ⟨u, rfl, hu4, hu5, hr3, hu⟩
/-- A drawn list of entries, of the call's own. -/
def DrawE (w : World) (R P c : Nat) (e0 : TypeId) (e : Ending) (w' : World) : Prop :=
  ∃ (v : Value) (l : List Ent), e = .returned v ∧ Own w' w.heap.size e0 2 v l.length (flatE l) ∧ WfE l ∧ l.length ≤ 1000 ∧ Rd w' R (P + c) ∧ Upd R w w'
theorem Rd.below {w w' : World} {R P : Nat} (h : Rd w R P) (hb : Below w.heap.size w w') : Rd w' R P := h.grown (row := none) (Below.grownBy hb none) (fun k hk => by cases hk)
theorem Upd.ofBelow {w w' : World} (R : Nat) (hb : Below w.heap.size w w') : Upd R w w' := Below.grownBy hb (some R)
theorem Own.upd {w w' : World} {B R : Nat} {e : TypeId} {size n : Nat} {v : Value} {xs : List Value} (h : Own w B e size v n xs) (hu : Upd R w w') (hR : R < B) : Own w' B e size v n xs := h.grown hu (fun k hk => by simp at hk; omega)
/-- An append to what the call itself owns. -/
theorem Upd.ofGrown {w0 w1 w' W : World} {R n : Nat} {e : TypeId} {size : Nat} {v : Value} {xs : List Value} (h : Upd R w0 w1) (hg : w1.grownBy w' v.ownBlock) (ho : Own W w0.heap.size e size v n xs) : Upd R w0 w' :=
  ⟨hg.os.trans h.os, hg.tape.trans h.tape, hg.output.trans h.output, Nat.le_trans h.size hg.size, fun k hk hr =>
    (hg.block k (Nat.lt_of_lt_of_le hk h.size) (fun e => by have := (ho.1.lt k e.symm).1; omega)).trans (h.block k hk hr)⟩
set_option maxHeartbeats 4000000 in
theorem l20Store_any (R P : Nat) (n : Int) (w : World) (h : Rd w R P) (hP : P ≤ 800000) (hn0 : 0 ≤ n) (hn : n ≤ 1000) :
    Calls Try.prog 52 #[.pointer (some ⟨R, 0, none⟩), .int .i64 n] w (DrawE w R P 60 72) := by
  have hRw := h.lt
  have hnil : Own (w.alloc (.cells #[] 72)) w.heap.size 72 2 (.slice (some ⟨w.heap.size, 0, none⟩) 0 0) 0 [] := own_lit 72 2 #[] 0 (Nat.le_refl _) (by simp) rfl
  go_enter Try.func52, Try.ntmps52
  go_wp2_with fail
  refine (pick_pos R P 7 _ (h.alloc _) (by omega) (by omega) (by omega)).mono ?_; rintro e w1 ⟨x1, rfl, hx0, hx1, hr1, hu1⟩
  have ho1 := hnil.upd hu1 hRw
  have hu1' : Upd R w w1 := ((Upd.refl R w).alloc _).trans hu1
  obtain ⟨k0, hk0⟩ : ∃ k0 : Nat, x1 = (k0 : Int) := ⟨x1.toNat, by omega⟩
  subst hk0
  clear hu1 hnil h
  go_wp2_with fail
  go_loopw [5, 6] (fun v i wr => ∃ (k : Nat) (l : List Ent), k ≤ 7 ∧ i = .int .i64 k ∧ Own wr w.heap.size 72 2 v l.length (flatE l) ∧ WfE l ∧ l.length ≤ 100 * (7 - k) ∧ Rd wr R (P + 1 + 6 * (7 - k)) ∧ Upd R w wr) (fun _ i _ => (intOf i).toNat)
  case atStart => exact ⟨k0, [], by omega, rfl, ho1, fun e he => (by cases he), by simp, hr1.mono (by omega), hu1'⟩
  case round =>
    obtain ⟨k, l, hk, rfl, hown, hwf, hlen, hr, hu⟩ := hrel
    clear ho1 hu1' hr1 hx0 hx1
    by_cases hlt : 0 < k
    · go_wp2_with fail
      refine (l20Key_any R _ _ hr (by omega)).mono ?_; rintro e w2 ⟨x2, rfl, hy0, hy1, hr2, hu2⟩
      go_wp2_with fail
      refine (l20Value_any R _ _ hr2 (by omega)).mono ?_; rintro e w3 ⟨x3, rfl, hz0, hz1, hr3, hu3⟩
      have hown3 := (hown.upd hu2 hRw).upd hu3 hRw
      have hu3' := (hu.trans hu2).trans hu3
      obtain ⟨g, c, rfl, hg, hrow⟩ := rowE_of_own hown3 (by omega) hwf
      have hput := putM_len l x2 x3
      clear hown hown3 hu hu2 hu3 hr hr2
      go_wp2_with fail
      refine (putValue_spec _ _ c l x2 x3 _ hrow (by omega) (fun h => by cases h) (WalkArith.wf_i64 (by omega)) (WalkArith.wf_i64 (by omega))).mono ?_; rintro e w4 ⟨v4, rfl, ho4, hw4, hb4⟩
      have hu4 := hu3'.trans (Upd.ofBelow R hb4)
      have hr4 := hr3.below hb4
      have ho4' := ho4.mono hu3'.size
      clear hrow hb4 hr3 hu3' ho4
      obtain ⟨l4, hl4⟩ : ∃ l4, l4 = (putM l x2 x3).1 := ⟨_, rfl⟩
      rw [← hl4] at ho4' hw4 hput
      clear hl4
      go_wp2
      go_roundw
      case rel => exact ⟨k - 1, l4, by omega, by congr 1; omega, ho4', hw4, by omega, hr4.mono (by omega), hu4⟩
      case measure => simp [intOf]; omega
    · obtain rfl : k = 0 := by omega
      clear hlt
      have hl700 : l.length ≤ 700 := by omega
      have hr' := hr.mono (show P + 1 + 6 * (7 - 0) ≤ P + 43 by omega)
      clear hlen hr
      go_wp2_with fail
      refine (odd_any R _ n _ hr' (by omega) (by omega) hn0).mono ?_; rintro e w2 ⟨ob, rfl, hr2, hu2⟩
      have hown2 := hown.upd hu2 hRw
      have hu2' := hu.trans hu2
      clear hown hu hu2 hr'
      cases ob with
      | false =>
        go_wp2
        go_ret
        exact ⟨_, l, rfl, hown2, hwf, by omega, hr2.mono (by omega), hu2'⟩
      | true =>
        go_wp2_with fail
        refine (pick_pos R _ 4 _ hr2 (by omega) (by omega) (by omega)).mono ?_; rintro e w3 ⟨x3, rfl, hz0, hz1, hr3, hu3⟩
        have hown3 := hown2.upd hu3 hRw
        have hu3' := hu2'.trans hu3
        clear hown2 hu2' hu3 hr2
        rcases (by omega : x3 = 0 ∨ x3 = 1 ∨ x3 = 2 ∨ x3 = 3) with rfl | rfl | rfl | rfl
        · go_wp2_with (at_builtin; refine wpList_append_one rfl _ _ 30 rfl w.heap.size 72 _ (.agg #[.int .i64 0, .int .i64 0]) 2 16 Try.underlying30 infoEnt rfl (by decide) _ _ _ [.int .i64 32, .int .i64 1] (by rfl) hown3 (by rfl) rfl ?c11 ?c21 (by decide) ?c31 ?_)
          case c11 => intro u hu; simp at hu; rcases hu with rfl | rfl <;> rfl
          case c21 => omega
          case c31 => exact hu3'.size
          intro v4 w4 ho4 hg4
          have hu4 : Upd R w w4 := Upd.ofGrown (hu3'.alloc _) hg4 hown3
          have hr4 : Rd w4 R (P + 43 + 1 + 1) := (hr3.alloc _).grown hg4 (fun k hk => by have := (hown3.1.lt k hk).1; omega)
          clear hg4
          go_wp2
          go_ret
          exact ⟨_, l ++ [(32, 1)], rfl, by rw [flatE_append, List.length_append]; exact ho4, hwf.snoc (by decide) (by decide), by simp; omega, hr4.mono (by omega), hu4⟩
        · have hlit : Own (w3.alloc (.cells #[.int .i64 31, .int .i64 1] 72)) w.heap.size 72 2 (.slice (some ⟨w3.heap.size, 0, none⟩) 1 1) 1 [.int .i64 31, .int .i64 1] := own_lit 72 2 #[.int .i64 31, .int .i64 1] 1 hu3'.size (by unfold maxLen; omega) rfl
          go_wp2_with (at_builtin; refine wpList_append_one (W := w3.alloc (.cells #[.int .i64 31, .int .i64 1] 72)) rfl _ _ 30 rfl w.heap.size 72 _ (.agg #[.int .i64 0, .int .i64 0]) 2 16 Try.underlying30 infoEnt rfl (by decide) _ _ _ [.int .i64 0, .int .i64 1] (by rfl) hlit (by simp [Act.eval]) rfl ?d11 (by omega) (by decide) ?d31 ?_)
          case d11 => intro u hu; simp at hu; rcases hu with rfl | rfl <;> rfl
          case d31 => simp; have := hu3'.size; omega
          intro v4 w4 ho4 hg4
          have hu4 : Upd R w w4 := Upd.ofGrown ((hu3'.alloc _).alloc _) hg4 hlit
          have hr4 : Rd w4 R (P + 43 + 1 + 1) := ((hr3.alloc _).alloc _).grown hg4 (fun k hk => by have := (hlit.1.lt k hk).1; omega)
          clear hg4
          go_wp2
          go_ret
          exact ⟨_, [(31, 1), (0, 1)], rfl, ho4, (by intro e he; simp at he; rcases he with rfl | rfl <;> exact ⟨by decide, by decide⟩), by simp, hr4.mono (by omega), hu4⟩
        · go_wp2_with fail
          refine (pick_pos R _ 3 _ ((hr3.alloc _).alloc _) (by omega) (by omega) (by omega)).mono ?_; rintro e w4 ⟨x4, rfl, hq0, hq1, hr4, hu4⟩
          have hRb := hr3.lt
          have hcell : ∃ y, w4.cell? ⟨w3.heap.size + 1, x4.toNat, none⟩ = some (.int .i64 y) ∧ -1 ≤ y ∧ y ≤ 1000001 := by
            rcases (by omega : x4 = 0 ∨ x4 = 1 ∨ x4 = 2) with rfl | rfl | rfl <;> exact ⟨_, hu4.cell (by simp [go_sem]; rfl) (by omega), by omega, by omega⟩
          obtain ⟨y, hy, hy2, hy3⟩ := hcell
          have hlit : Own (w3.alloc (.cells #[] 72)) w.heap.size 72 2 (.slice (some ⟨w3.heap.size, 0, none⟩) 0 0) 0 [] := own_lit 72 2 #[] 0 hu3'.size (by simp) rfl
          have hlit4 := (hlit.alloc _).upd hu4 hRw
          have hu4' := ((hu3'.alloc _).alloc _).trans hu4
          clear hu4 hu3' hlit hr3
          go_wp2_with (at_builtin; refine wpList_append_one rfl _ _ 30 rfl w.heap.size 72 _ (.agg #[.int .i64 0, .int .i64 0]) 2 16 Try.underlying30 infoEnt rfl (by decide) _ _ _ [.int .i64 1, .int .i64 y] (by rfl) hlit4 (by rfl) rfl ?e11 (by omega) (by decide) ?e31 ?_)
          case e11 => intro u hu; simp at hu; rcases hu with rfl | rfl <;> rfl
          case e31 => exact hu4'.size
          intro v5 w5 ho5 hg5
          have hu5 : Upd R w w5 := Upd.ofGrown (hu4'.alloc _) hg5 hlit4
          have hr5 : Rd w5 R (P + 43 + 1 + 1 + 1) := (hr4.alloc _).grown hg5 (fun k hk => by have := (hlit4.1.lt k hk).1; omega)
          clear hg5
          go_wp2
          go_ret
          exact ⟨_, [(1, y)], rfl, ho5, (by intro e he; simp at he; subst he; exact ⟨(show (Lit.int .i64 1).wf = true by decide), WalkArith.wf_i64 (by omega)⟩), by simp, hr5.mono (by omega), hu5⟩
        · obtain ⟨g, c, rfl, hg, hrow⟩ := rowE_of_own hown3 (by omega) hwf
          have hlit : Own (w3.alloc (.cells #[.int .i64 (-1), .int .i64 5] 72)) w.heap.size 72 2 (.slice (some ⟨w3.heap.size, 0, none⟩) 1 1) 1 [.int .i64 (-1), .int .i64 5] := own_lit 72 2 #[.int .i64 (-1), .int .i64 5] 1 hu3'.size (by unfold maxLen; omega) rfl
          have hnews := (hrow.below ((Below.refl w3.heap.size w3).alloc (Nat.le_refl _) (.cells #[.int .i64 (-1), .int .i64 5] 72))).news
          go_wp2_with (at_builtin; refine wpList_append_rows rfl _ _ 30 rfl w.heap.size 72 (.agg #[.int .i64 0, .int .i64 0]) 2 16 Try.underlying30 infoEnt rfl (by decide) _ _ _ (flatE l) (by rfl) hlit (some ⟨g, 0, none⟩) l.length c (by rfl) (fun h => by cases h) ?f2 hnews (flatE_oneCell l) ?f5 (by decide) ?f6 ?_)
          case f2 => exact flatE_len l
          case f5 => omega
          case f6 => simp; have := hu3'.size; omega
          intro v4 w4 ho4 hg4
          have hu4 : Upd R w w4 := Upd.ofGrown (hu3'.alloc _) hg4 hlit
          have hr4 : Rd w4 R (P + 43 + 1 + 1) := (hr3.alloc _).grown hg4 (fun k hk => by have := (hlit.1.lt k hk).1; omega)
          clear hg4 hnews
          go_wp2
          go_ret
          exact ⟨_, (-1, 5) :: l, rfl, (by rw [List.length_cons, Nat.add_comm]; exact ho4), (by intro e he; rcases List.mem_cons.1 he with rfl | h; exact ⟨by decide, by decide⟩; exact hwf e h), by simp; omega, hr4.mono (by omega), hu4⟩
end Go.Proofs.Ytpaeioabmmkheaa

/- The contract of the draw of a list of actions. -/
import Derived.Test.YtkoolemlnmolfaaDrawAct
namespace Go.Proofs.Ytkoolemlnmolfaa
open Go.RowKit
set_option linter.unusedVariables false
/-- Drawn actions, of the call's own. -/
def DrawAs (w : World) (R P c : Nat) (e : Ending) (w' : World) : Prop :=
  ∃ (v : Value) (l : List Acn), e = .returned v ∧ Own w' w.heap.size 24 4 v l.length (flatA l) ∧ WfAs l ∧ l.length ≤ 20 ∧ Rd w' R (P + c) ∧ Upd R w w'
theorem infoActS : (Try.prog.info? 24).map (fun i => (i.zero, i.size, i.bytes)) = some (some (.agg #[.int .i64 0, .int .i64 0, .int .i64 0, .int .i64 0]), 4, 32) := by kernel_rfl
/-- A list of actions under way. -/
def AsAt (w wr : World) (R P : Nat) (v : Value) (l : List Acn) : Prop := Own wr w.heap.size 24 4 v l.length (flatA l) ∧ WfAs l ∧ Rd wr R P ∧ Upd R w wr
theorem AsAt.next {w wr w' : World} {R P P' : Nat} {v : Value} {l : List Acn} (h : AsAt w wr R P v l) (hr : Rd w' R P') (hu : Upd R wr w') (hR : R < w.heap.size) : AsAt w w' R P' v l :=
  ⟨h.1.upd hu hR, h.2.1, hr, h.2.2.2.trans hu⟩
theorem AsAt.app {w wr w' : World} {R P : Nat} {v v' : Value} {l : List Acn} (h : AsAt w wr R P v l) (x : Acn) (o : Obj) (hx : WfA x) (ho : Own w' w.heap.size 24 4 v' (l.length + 1) (flatA l ++ celA x)) (hg : (wr.alloc o).grownBy w' v.ownBlock) (hR : R < w.heap.size) : AsAt w w' R P v' (l ++ [x]) := by
  obtain ⟨h1, h2, h3, h4⟩ := h
  refine ⟨?_, h2.snoc hx, (h3.alloc _).grown hg (fun k hk => by have := (h1.1.lt k hk).1; omega), Upd.ofGrown (h4.alloc _) hg h1⟩
  rw [List.length_append, flatA_append]
  have e : flatA [x] = celA x := by simp [flatA]
  rw [e]; exact ho
theorem wfA_of {p q r t : Int} (hp : -10 ≤ p ∧ p ≤ 100) (hq : -10 ≤ q ∧ q ≤ 100) (hr : -10 ≤ r ∧ r ≤ 100) (ht : -10 ≤ t ∧ t ≤ 1000010) : WfA ⟨p, q, r, t⟩ :=
  ⟨WalkArith.wf_i64 (by simp only; omega), WalkArith.wf_i64 (by simp only; omega), WalkArith.wf_i64 (by simp only; omega), WalkArith.wf_i64 (by simp only; omega)⟩
/-- The length of a slice. -/
def lenOf : Value → Nat
  | .slice _ n _ => n
  | _ => 0
theorem celA_one (x : Acn) : ∀ u ∈ celA x, u.oneCell' = true := by
  intro u hu; simp [celA] at hu; rcases hu with rfl | rfl | rfl | rfl <;> rfl
set_option maxHeartbeats 4000000 in
theorem l20Actions_any (R P : Nat) (n : Int) (w : World) (h : Rd w R P) (hP : P ≤ 700000) (hn0 : 0 ≤ n) (hn : n ≤ 1000) :
    Calls Try.prog 32 #[.pointer (some ⟨R, 0, none⟩), .int .i64 n] w (DrawAs w R P 150) := by
  have hRw := h.lt
  have hnil : Own (w.alloc (.cells #[] 24)) w.heap.size 24 4 (.slice (some ⟨w.heap.size, 0, none⟩) 0 0) 0 [] := own_lit 24 4 #[] 0 (Nat.le_refl _) (by simp) rfl
  go_enter Try.func32, Try.ntmps32
  go_wp2_with fail
  refine (pick_pos R P 7 _ (h.alloc _) (by omega) (by omega) (by omega)).mono ?_; rintro e w1 ⟨x1, rfl, hx0, hx1, hr1, hu1⟩
  have hA1 : AsAt w w1 R (P + 1) (.slice (some ⟨w.heap.size, 0, none⟩) 0 0) [] := ⟨hnil.upd hu1 hRw, fun e he => (by cases he), hr1, ((Upd.refl R w).alloc _).trans hu1⟩
  obtain ⟨k0, hk0⟩ : ∃ k0 : Nat, x1 = (k0 : Int) := ⟨x1.toNat, by omega⟩
  subst hk0
  clear hu1 hnil h hr1
  go_wp2_with fail
  go_loopw [5, 6] (fun v i wr => ∃ (k : Nat) (l : List Acn), k ≤ 6 ∧ i = .int .i64 k ∧ AsAt w wr R (P + 1 + 13 * (6 - k)) v l ∧ l.length ≤ 6 - k) (fun _ i _ => (intOf i).toNat)
  case atStart => exact ⟨k0, [], by omega, rfl, ⟨hA1.1, hA1.2.1, hA1.2.2.1.mono (by omega), hA1.2.2.2⟩, by simp⟩
  case round =>
    obtain ⟨k, l, hk, rfl, hA, hlen⟩ := hrel
    clear hA1 hx0 hx1
    by_cases hlt : 0 < k
    · go_wp2_with fail
      refine (l20Action_any R _ 0 _ hA.2.2.1 (by omega) (by omega) (by omega)).mono ?_; rintro e w2 ⟨p, q, r, t, rfl, hp, hq, hrr, ht, hr2, hu2⟩
      have hA2 := hA.next hr2 hu2 hRw
      have HW := Lib.hid (wfA_of hp hq hrr ht)
      have hs2 := hA2.2.2.2.size
      clear hA hr2 hu2 hp hq hrr ht
      go_wp2_with (at_builtin; refine wpList_append_one rfl _ _ 29 rfl w.heap.size 24 _ (.agg #[.int .i64 0, .int .i64 0, .int .i64 0, .int .i64 0]) 4 32 Try.underlying29 infoActS rfl (by decide) _ _ _ [.int .i64 p, .int .i64 q, .int .i64 r, .int .i64 t] (by rfl) hA2.1 (by rfl) rfl ?c1 ?c2 (by decide) ?c3 ?_)
      case c1 => exact celA_one ⟨p, q, r, t⟩
      case c2 => omega
      case c3 => exact hs2
      intro v3 w3 ho3 hg3
      have hA3 := hA2.app ⟨p, q, r, t⟩ _ HW.out ho3 hg3 hRw
      have HA := Lib.hid hA3
      clear hA2 hA3 ho3 hg3
      go_wp2
      go_roundw
      case rel => exact ⟨k - 1, l ++ [⟨p, q, r, t⟩], by omega, by congr 1; omega, ⟨HA.out.1, HA.out.2.1, HA.out.2.2.1.mono (by omega), HA.out.2.2.2⟩, by simp; omega⟩
      case measure => simp [intOf]; omega
    · obtain rfl : k = 0 := by omega
      clear hlt
      go_wp2_with fail
      refine (odd_any R _ n _ hA.2.2.1 (by omega) (by omega) hn0).mono ?_; rintro e w2 ⟨ob, rfl, hr2, hu2⟩
      have hA2 := hA.next hr2 hu2 hRw
      clear hA hr2 hu2
      cases ob with
      | false =>
        have HA := Lib.hid hA2
        clear hA2
        go_wp2
        go_ret
        exact ⟨_, l, rfl, HA.out.1, HA.out.2.1, by omega, HA.out.2.2.1.mono (by omega), HA.out.2.2.2⟩
      | true =>
        go_wp2_with fail
        refine (pick_pos R _ 2 _ hA2.2.2.1 (by omega) (by omega) (by omega)).mono ?_; rintro e w3 ⟨x3, rfl, hz0, hz1, hr3, hu3⟩
        have hA3 := hA2.next hr3 hu3 hRw
        clear hA2 hr3 hu3
        rcases (by omega : x3 = 0 ∨ x3 = 1) with rfl | rfl
        · go_wp2_with fail
          refine (l20Action_any R _ 1 _ hA3.2.2.1 (by omega) (by omega) (by omega)).mono ?_; rintro e w4 ⟨p, q, r, t, rfl, hp, hq, hrr, ht, hr4, hu4⟩
          have hA4 := hA3.next hr4 hu4 hRw
          have HW := Lib.hid (wfA_of hp hq hrr ht)
          have hs4 := hA4.2.2.2.size
          clear hA3 hr4 hu4 hp hq hrr ht
          go_wp2_with (at_builtin; refine wpList_append_one rfl _ _ 29 rfl w.heap.size 24 _ (.agg #[.int .i64 0, .int .i64 0, .int .i64 0, .int .i64 0]) 4 32 Try.underlying29 infoActS rfl (by decide) _ _ _ [.int .i64 p, .int .i64 q, .int .i64 r, .int .i64 t] (by rfl) hA4.1 (by rfl) rfl ?d1 ?d2 (by decide) ?d3 ?_)
          case d1 => exact celA_one ⟨p, q, r, t⟩
          case d2 => omega
          case d3 => exact hs4
          intro v5 w5 ho5 hg5
          have HA := Lib.hid (hA4.app ⟨p, q, r, t⟩ _ HW.out ho5 hg5 hRw)
          clear hA4 ho5 hg5
          go_wp2
          go_ret
          exact ⟨v5, l ++ [⟨p, q, r, t⟩], rfl, HA.out.1, HA.out.2.1, by simp; omega, HA.out.2.2.1.mono (by omega), HA.out.2.2.2⟩
        · go_wp2_with fail
          go_loopw [5] (fun v wr => ∃ (l : List Acn), l.length ≤ 11 ∧ AsAt w wr R (P + 90) v l) (fun v _ => 11 - lenOf v)
          case atStart => exact ⟨l, by omega, ⟨hA3.1, hA3.2.1, hA3.2.2.1.mono (by omega), hA3.2.2.2⟩⟩
          case round =>
            clear hA3 hlen hz0 hz1
            obtain ⟨m, hm, hA⟩ := hrel
            obtain ⟨g, c, rfl, hg0, hg1⟩ := hA.1.slice
            have hs3 := hA.2.2.2.size
            by_cases h10 : m.length ≤ 10
            · have h10' : (m.length : Int) ≤ 10 := by omega
              go_wp2_with (at_builtin; refine wpList_append_one rfl _ _ 29 rfl w.heap.size 24 _ (.agg #[.int .i64 0, .int .i64 0, .int .i64 0, .int .i64 0]) 4 32 Try.underlying29 infoActS rfl (by decide) _ _ _ [.int .i64 1, .int .i64 0, .int .i64 0, .int .i64 0] (by rfl) hA.1 (by rfl) rfl ?e1 ?e2 (by decide) ?e3 ?_)
              case e1 => exact celA_one ⟨1, 0, 0, 0⟩
              case e2 => omega
              case e3 => exact hs3
              intro v5 w5 ho5 hg5
              have hA5 := hA.app ⟨1, 0, 0, 0⟩ _ (wfA_of (by omega) (by omega) (by omega) (by omega)) ho5 hg5 hRw
              obtain ⟨g5, c5, rfl, -, -⟩ := ho5.slice
              have HA := Lib.hid hA5
              clear hA hA5 ho5 hg5
              go_wp2
              go_roundw
              case rel => exact ⟨m ++ [⟨1, 0, 0, 0⟩], by simp; omega, HA.out⟩
              case measure => simp [lenOf]; omega
            · have h10' : decide ((m.length : Int) ≤ 10) = false := by simp; omega
              have HA := Lib.hid hA
              clear hA
              go_wp2
              go_ret
              exact ⟨_, m, rfl, HA.out.1, HA.out.2.1, by omega, HA.out.2.2.1.mono (by omega), HA.out.2.2.2⟩
end Go.Proofs.Ytkoolemlnmolfaa

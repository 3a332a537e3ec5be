/- The contracts of the draws of versions: l20Versions, DrawVersionsValid, DrawReadVersion, DrawDropVersions, DrawPutVersions, DrawLastVersions. -/
import Derived.Test.YtaaffpolmecicaaDrawEffs
import Derived.Test.YtaaffpolmecicaaSpecV
import Derived.Test.YtaaffpolmecicaaVerA
namespace Go.Proofs.Ytaaffpolmecicaa
open Go.RowKit
set_option linter.unusedVariables false
set_option linter.unusedSimpArgs false
/-- Drawn versions, of the call's own. -/
def DrawVs (w : World) (R P c : Nat) (e : Ending) (w' : World) : Prop :=
  ∃ (v : Value) (l : List Ver), e = .returned v ∧ Own w' w.heap.size 104 3 v l.length (flatV l) ∧ WfVs l ∧ l.length ≤ 330 ∧ Rd w' R (P + c) ∧ Upd R w w'
/-- Versions under way. -/
def VsAt (w wr : World) (R P : Nat) (v : Value) (l : List Ver) : Prop := Own wr w.heap.size 104 3 v l.length (flatV l) ∧ WfVs l ∧ Rd wr R P ∧ Upd R w wr
theorem VsAt.next {w wr w' : World} {R P P' : Nat} {v : Value} {l : List Ver} (h : VsAt w wr R P v l) (hr : Rd w' R P') (hu : Upd R wr w') (hR : R < w.heap.size) : VsAt w w' R P' v l :=
  ⟨h.1.upd hu hR, h.2.1, hr, h.2.2.2.trans hu⟩
theorem VsAt.app {w wr w' : World} {R P : Nat} {v v' : Value} {l : List Ver} (h : VsAt w wr R P v l) (x : Ver) (o : Obj) (hx : WfV x) (ho : Own w' w.heap.size 104 3 v' (l.length + 1) (flatV l ++ celV x)) (hg : (wr.alloc o).grownBy w' v.ownBlock) (hR : R < w.heap.size) : VsAt w w' R P v' (l ++ [x]) := by
  obtain ⟨h1, h2, h3, h4⟩ := h
  refine ⟨?_, h2.snoc hx, (h3.alloc _).grown hg (fun k hk => by have := (h1.1.lt k hk).1; omega), Upd.ofGrown (h4.alloc _) hg h1⟩
  rw [List.length_append, flatV_append]
  have e : flatV [x] = celV x := by simp [flatV]
  rw [e]; exact ho
theorem wfV_of {p q r : Int} (hp : 0 ≤ p ∧ p ≤ 100) (hq : 0 ≤ q ∧ q ≤ 100) (hr : 0 ≤ r ∧ r ≤ 1000010) : WfV ⟨p, q, r⟩ :=
  ⟨WalkArith.wf_i64 (by simp only; omega), WalkArith.wf_i64 (by simp only; omega), WalkArith.wf_i64 (by simp only; omega)⟩
/-- The writes of an effect that is a value. -/
theorem field_eff2 (dn : Bool) (a b : Option Addr) (n m c d : Nat) : ∀ W : World, (Instr.field 93 (.agg #[.bool dn, .slice a n c, .slice b m d]) 2).run Try.prog W = .ok (.slice b m d) W := fun _ => by kernel_rfl
set_option maxRecDepth 100000 in
set_option maxHeartbeats 4000000 in
theorem l20Versions_any (R P : Nat) (n : Int) (w : World) (h : Rd w R P) (hP : P ≤ 600000) (hn0 : 0 ≤ n) (hn : n ≤ 1000) :
    Calls Try.prog 69 #[.pointer (some ⟨R, 0, none⟩), .int .i64 n] w (DrawVs w R P 600) := by
  have hRw := h.lt
  have hnil : Own (w.alloc (.cells #[] 104)) w.heap.size 104 3 (.slice (some ⟨w.heap.size, 0, none⟩) 0 0) 0 [] := own_lit 104 3 #[] 0 (Nat.le_refl _) (by simp) rfl
  go_enter Try.func69, Try.ntmps69
  go_wp2_with fail
  refine (pick_pos R P 6 _ (h.alloc _) (by omega) (by omega) (by omega)).mono ?_; rintro e w1 ⟨x1, rfl, hx0, hx1, hr1, hu1⟩
  have hA1 : VsAt w w1 R (P + 1) (.slice (some ⟨w.heap.size, 0, none⟩) 0 0) [] := ⟨hnil.upd hu1 hRw, fun e he => (by cases he), hr1, ((Upd.refl R w).alloc _).trans hu1⟩
  obtain ⟨k0, hk0⟩ : ∃ k0 : Nat, x1 = (k0 : Int) := ⟨x1.toNat, by omega⟩
  subst hk0
  clear hu1 hnil h hr1
  go_wp2_with fail
  go_loopw [5, 6] (fun v i wr => ∃ (k : Nat) (l : List Ver), k ≤ 5 ∧ i = .int .i64 k ∧ VsAt w wr R (P + 1 + 91 * (5 - k)) v l ∧ l.length ≤ 320) (fun _ i _ => (intOf i).toNat)
  case atStart => exact ⟨k0, [], by omega, rfl, ⟨hA1.1, hA1.2.1, hA1.2.2.1.mono (by omega), hA1.2.2.2⟩, by simp⟩
  case round =>
    obtain ⟨k, l, hk, rfl, hA, hlen⟩ := hrel
    obtain ⟨g, cp, rfl, hgB, hgs⟩ := hA.1.slice
    clear hA1 hx0 hx1
    by_cases hlt : 0 < k
    · go_wp2_with fail
      refine (pick_pos R _ 10 _ hA.2.2.1 (by omega) (by omega) (by omega)).mono ?_; rintro e w2 ⟨x2, rfl, hy0, hy1, hr2, hu2⟩
      have hA2 := hA.next hr2 hu2 hRw
      clear hA hr2 hu2
      go_wp2_with fail
      refine (l20Effect_any R _ 0 _ hA2.2.2.1 (by omega) (by omega) (by omega)).mono ?_; rintro e w3 ⟨dn, va, vb, X, Y, rfl, o1, o2, wf1, wf2, l1, l2, hr3, hu3, -⟩
      obtain ⟨a1, c1, rfl, -, z1⟩ := rowE_of_owns o1 (by omega) wf1
      obtain ⟨a2, c2, rfl, hrY, z2⟩ := rowE_of_owns o2 (by omega) wf2
      have hA3 := hA2.next hr3 hu3 hRw
      have hs3 := hA3.2.2.2.size
      clear hA2 hr3 hu3 o1 o2 wf1 wf2
      have hfd := field_eff2 dn a1 a2 X.length Y.length c1 c2
      go_wp2_with fail
      refine (putVersions_spec _ _ _ l x2 _ _ _ Y _ (rowV_owned hA3.1.1 rfl (by omega) hA3.2.1) hrY).mono ?_; rintro e w4 ⟨v4, rfl, ho4, hw4, hb4⟩
      have hpl := putVM_len l x2 Y
      obtain ⟨M, hM⟩ : ∃ M, M = (putVM l x2 Y).1 := ⟨_, rfl⟩
      rw [← hM] at ho4 hw4 hpl
      have HA : Hid (VsAt w w4 R (P + 1 + 91 * (5 - (k - 1))) v4 M) := Lib.hid ⟨ho4.mono hs3, hw4, (hA3.2.2.1.below hb4).mono (by omega), hA3.2.2.2.trans (Upd.ofBelow R hb4)⟩
      clear hA3 ho4 hw4 hb4 hrY hM
      go_wp2
      go_roundw
      case rel => exact ⟨k - 1, M, by omega, by congr 1; omega, HA.out, hpl⟩
      case measure => simp [intOf]; omega
    · obtain rfl : k = 0 := by omega
      clear hlt
      go_wp2_with fail
      refine (odd_any R _ n _ hA.2.2.1 (by omega) (by omega) hn0).mono ?_; rintro e w2 ⟨ob, rfl, hr2, hu2⟩
      have hA2 := hA.next hr2 hu2 hRw
      clear hA hr2 hu2
      cases ob with
      | false =>
        have HA := Lib.hid hA2
        clear hA2
        go_wp2
        go_ret
        exact ⟨_, l, rfl, HA.out.1, HA.out.2.1, by omega, HA.out.2.2.1.mono (by omega), HA.out.2.2.2⟩
      | true =>
        go_wp2_with fail
        refine (pick_pos R _ 3 _ hA2.2.2.1 (by omega) (by omega) (by omega)).mono ?_; rintro e w3 ⟨x3, rfl, hz0, hz1, hr3, hu3⟩
        have hA3 := hA2.next hr3 hu3 hRw
        have hs3 := hA3.2.2.2.size
        clear hA2 hr3 hu3
        rcases (by omega : x3 = 0 ∨ x3 = 1 ∨ x3 = 2) with rfl | rfl | rfl
        · go_wp2_with (at_builtin; refine wpList_append_one rfl _ _ 51 rfl w.heap.size 104 _ (.agg #[.int .i64 0, .int .i64 0, .int .i64 0]) 3 24 Try.underlying51 infoVer rfl (by decide) _ _ _ [.int .i64 0, .int .i64 0, .int .i64 1] (by rfl) hA3.1 (by rfl) rfl ?c1 ?c2 (by decide) ?c3 ?_)
          case c1 => exact celV_one ⟨0, 0, 1⟩
          case c2 => omega
          case c3 => exact hs3
          intro v5 w5 ho5 hg5
          have hA5 := hA3.app ⟨0, 0, 1⟩ _ (wfV_of (by omega) (by omega) (by omega)) ho5 hg5 hRw
          have hs5 := hA5.2.2.2.size
          obtain ⟨M, hM⟩ : ∃ M, M = l ++ [(⟨0, 0, 1⟩ : Ver)] := ⟨_, rfl⟩
          have hMl : M.length ≤ 321 := by rw [hM]; simp; omega
          rw [← hM] at hA5
          clear hA3 ho5 hg5 hM
          go_wp2_with (at_builtin; refine wpList_append_one rfl _ _ 51 rfl w.heap.size 104 _ (.agg #[.int .i64 0, .int .i64 0, .int .i64 0]) 3 24 Try.underlying51 infoVer rfl (by decide) _ _ _ [.int .i64 0, .int .i64 0, .int .i64 1] (by rfl) hA5.1 (by rfl) rfl ?c4 ?c5 (by decide) ?c6 ?_)
          case c4 => exact celV_one ⟨0, 0, 1⟩
          case c5 => omega
          case c6 => exact hs5
          intro v6 w6 ho6 hg6
          have HA := Lib.hid (hA5.app ⟨0, 0, 1⟩ _ (wfV_of (by omega) (by omega) (by omega)) ho6 hg6 hRw)
          clear hA5 ho6 hg6
          go_wp2
          go_ret
          exact ⟨_, M ++ [(⟨0, 0, 1⟩ : Ver)], rfl, HA.out.1, HA.out.2.1, by simp; omega, HA.out.2.2.1.mono (by omega), HA.out.2.2.2⟩
        · go_wp2_with (at_builtin; refine wpList_append_one rfl _ _ 51 rfl w.heap.size 104 _ (.agg #[.int .i64 0, .int .i64 0, .int .i64 0]) 3 24 Try.underlying51 infoVer rfl (by decide) _ _ _ [.int .i64 31, .int .i64 10, .int .i64 0] (by rfl) hA3.1 (by rfl) rfl ?d1 ?d2 (by decide) ?d3 ?_)
          case d1 => exact celV_one ⟨31, 10, 0⟩
          case d2 => omega
          case d3 => exact hs3
          intro v6 w6 ho6 hg6
          have HA := Lib.hid (hA3.app ⟨31, 10, 0⟩ _ (wfV_of (by omega) (by omega) (by omega)) ho6 hg6 hRw)
          clear hA3 ho6 hg6
          go_wp2
          go_ret
          exact ⟨_, l ++ [(⟨31, 10, 0⟩ : Ver)], rfl, HA.out.1, HA.out.2.1, by simp; omega, HA.out.2.2.1.mono (by omega), HA.out.2.2.2⟩
        · go_wp2_with (at_builtin; refine wpList_append_one rfl _ _ 51 rfl w.heap.size 104 _ (.agg #[.int .i64 0, .int .i64 0, .int .i64 0]) 3 24 Try.underlying51 infoVer rfl (by decide) _ _ _ [.int .i64 31, .int .i64 1, .int .i64 1000001] (by rfl) hA3.1 (by rfl) rfl ?e1 ?e2 (by decide) ?e3 ?_)
          case e1 => exact celV_one ⟨31, 1, 1000001⟩
          case e2 => omega
          case e3 => exact hs3
          intro v6 w6 ho6 hg6
          have HA := Lib.hid (hA3.app ⟨31, 1, 1000001⟩ _ (wfV_of (by omega) (by omega) (by omega)) ho6 hg6 hRw)
          clear hA3 ho6 hg6
          go_wp2
          go_ret
          exact ⟨_, l ++ [(⟨31, 1, 1000001⟩ : Ver)], rfl, HA.out.1, HA.out.2.1, by simp; omega, HA.out.2.2.1.mono (by omega), HA.out.2.2.2⟩
end Go.Proofs.Ytaaffpolmecicaa

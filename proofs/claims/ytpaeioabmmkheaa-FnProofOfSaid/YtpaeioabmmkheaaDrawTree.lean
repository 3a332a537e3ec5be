/- The contracts of the draws of chapter 3. -/
import Derived.Test.YtpaeioabmmkheaaDrawStores
import Derived.Test.YtpaeioabmmkheaaTreeSpec2
namespace Go.Proofs.Ytpaeioabmmkheaa
open Go.RowKit
set_option linter.unusedVariables false
theorem results_tmp4 {fn : Func} {t u v x : Tmp} (h : fn.results = #[.tmp t, .tmp u, .tmp v, .tmp x]) (tmps : Array Value) (P : Program) (w : World) :
    (results fn tmps).run P w = .ok (.tuple #[tmps.getD t undef, tmps.getD u undef, tmps.getD v undef, tmps.getD x undef]) w := by simp [results, h]
theorem Own.cap {w : World} {B : Nat} {e : TypeId} {size n : Nat} {a : Option Addr} {c : Nat} {xs : List Value} (h : Own w B e size (.slice a n c) n xs) : n ≤ c := by
  rcases h.1.2 with ⟨h1, _⟩ | ⟨g, cap, cur, h1, _, _, h2, _⟩
  · exact absurd h1 h.2
  · simp only [Value.slice.injEq] at h1
    omega
theorem odd_zero (R : Nat) (w : World) :
    Calls Try.prog 69 #[.pointer (some ⟨R, 0, none⟩), .int .i64 0] w fun e w' => e = .returned (.bool false) ∧ w = w' := by
  go_enter Try.func69, Try.ntmps69
  go_wp2
  go_ret
  exact ⟨rfl, rfl⟩
theorem Upd.setNew {R g o : Nat} {w w9 : World} {v : Value} (h : Upd R w w9) (hg : w.heap.size ≤ g) : Upd R w (w9.setCell ⟨g, o, none⟩ v) :=
  ⟨h.os, h.tape, h.output, by simpa [World.setCell] using h.size, fun k hk hr => (Below.heap_setCell _ _ _ _ (by simp; omega)).trans (h.block k hk hr)⟩
theorem RowI.tail {w : World} {g n : Nat} {l : List Int} (h : RowI w (some ⟨g, 0, none⟩) (n + 1) l) : RowI w (some ⟨g, 1, none⟩) n (l.drop 1) := by
  obtain ⟨h1, h2, h3, h4⟩ := h
  refine ⟨by rw [List.length_drop]; omega, by omega, fun hn => ⟨g, 1, rfl, fun i hi => ?_⟩, fun x hx => h4 x (List.mem_of_mem_drop hx)⟩
  obtain ⟨b, off, he, hc⟩ := h3 (by omega)
  simp at he
  obtain ⟨rfl, rfl⟩ := he
  have := hc (1 + i) (by omega)
  rw [Nat.zero_add] at this
  rw [this, List.getD_eq_getElem?_getD, List.getD_eq_getElem?_getD, List.getElem?_drop]
/-- A drawn valid store. -/
def DrawV (w : World) (R P c : Nat) (e0 : TypeId) (e : Ending) (w' : World) : Prop :=
  ∃ (v : Value) (l : List Ent), e = .returned v ∧ Own w' w.heap.size e0 2 v l.length (flatE l) ∧ WfE l ∧ storeB l = true ∧ Rd w' R (P + c) ∧ Upd R w w'
set_option maxHeartbeats 4000000 in
theorem l20Store_valid (R P : Nat) (w : World) (h : Rd w R P) (hP : P ≤ 800000) :
    Calls Try.prog 52 #[.pointer (some ⟨R, 0, none⟩), .int .i64 0] w (DrawV w R P 60 72) := by
  have hRw := h.lt
  have hnil : Own (w.alloc (.cells #[] 72)) w.heap.size 72 2 (.slice (some ⟨w.heap.size, 0, none⟩) 0 0) 0 [] := own_lit 72 2 #[] 0 (Nat.le_refl _) (by simp) rfl
  go_enter Try.func52, Try.ntmps52
  go_wp2_with fail
  refine (pick_pos R P 7 _ (h.alloc _) (by omega) (by omega) (by omega)).mono ?_; rintro e w1 ⟨x1, rfl, hx0, hx1, hr1, hu1⟩
  have ho1 := hnil.upd hu1 hRw
  have hu1' : Upd R w w1 := ((Upd.refl R w).alloc _).trans hu1
  obtain ⟨k0, hk0⟩ : ∃ k0 : Nat, x1 = (k0 : Int) := ⟨x1.toNat, by omega⟩
  subst hk0
  clear hu1 hnil h
  go_wp2_with fail
  go_loopw [5, 6] (fun v i wr => ∃ (k : Nat) (l : List Ent), k ≤ 7 ∧ i = .int .i64 k ∧ Own wr w.heap.size 72 2 v l.length (flatE l) ∧ WfE l ∧ storeB l = true ∧ Rd wr R (P + 1 + 6 * (7 - k)) ∧ Upd R w wr) (fun _ i _ => (intOf i).toNat)
  case atStart => exact ⟨k0, [], by omega, rfl, ho1, fun e he => (by cases he), rfl, hr1.mono (by omega), hu1'⟩
  case round =>
    obtain ⟨k, l, hk, rfl, hown, hwf, hst, hr, hu⟩ := hrel
    have HST := Lib.hid hst
    have hlen := store_len hst
    clear ho1 hu1' hr1 hx0 hx1 hst
    by_cases hlt : 0 < k
    · go_wp2_with fail
      refine (l20Key_any R _ _ hr (by omega)).mono ?_; rintro e w2 ⟨x2, rfl, hy0, hy1, hr2, hu2⟩
      go_wp2_with fail
      refine (l20Value_any R _ _ hr2 (by omega)).mono ?_; rintro e w3 ⟨x3, rfl, hz0, hz1, hr3, hu3⟩
      have hown3 := (hown.upd hu2 hRw).upd hu3 hRw
      have hu3' := (hu.trans hu2).trans hu3
      obtain ⟨g, c, rfl, hg, hrow⟩ := rowE_of_own hown3 (by omega) hwf
      have HS4 : Hid (storeB (putM l x2 x3).1 = true) := Lib.hid (by
        rw [putM, if_pos HST.out, inB_yes hy0 hy1, inB_yes hz0 hz1]
        exact (storeB_ok _).2 (ok_put ((storeB_ok l).1 HST.out) hy0 hy1 hz0 hz1))
      clear hown hown3 hu hu2 hu3 hr hr2
      go_wp2_with fail
      refine (putValue_spec _ _ c l x2 x3 _ hrow (by omega) (fun h => by cases h) (WalkArith.wf_i64 (by omega)) (WalkArith.wf_i64 (by omega))).mono ?_; rintro e w4 ⟨v4, rfl, ho4, hw4, hb4⟩
      have hu4 := hu3'.trans (Upd.ofBelow R hb4)
      have hr4 := hr3.below hb4
      have ho4' := ho4.mono hu3'.size
      clear hrow hb4 hr3 hu3' ho4
      obtain ⟨l4, hl4⟩ : ∃ l4, l4 = (putM l x2 x3).1 := ⟨_, rfl⟩
      rw [← hl4] at ho4' hw4 HS4
      clear hl4
      go_wp2
      go_roundw
      case rel => exact ⟨k - 1, l4, by omega, by congr 1; omega, ho4', hw4, HS4.out, hr4.mono (by omega), hu4⟩
      case measure => simp [intOf]; omega
    · obtain rfl : k = 0 := by omega
      clear hlt
      have hr' := hr.mono (show P + 1 + 6 * (7 - 0) ≤ P + 43 by omega)
      clear hlen hr
      go_wp2_with fail
      refine (odd_zero R _).mono ?_; rintro e w2 ⟨rfl, rfl⟩
      go_wp2
      go_ret
      exact ⟨_, l, rfl, hown, hwf, HST.out, hr'.mono (by omega), hu⟩
/-- A drawn key, value and proof, beside a valid store. -/
def DrawP (w : World) (R P c : Nat) (e0 : TypeId) (e : Ending) (w' : World) : Prop :=
  ∃ (v : Value) (l : List Ent) (key val : Int) (g o n cap : Nat) (p : List Int), e = .returned (.tuple #[v, .int .i64 key, .int .i64 val, .slice (some ⟨g, o, none⟩) n cap]) ∧ Own w' w.heap.size e0 2 v l.length (flatE l) ∧ WfE l ∧ storeB l = true ∧
    -10 ≤ key ∧ key ≤ 1000010 ∧ -10 ≤ val ∧ val ≤ 1000010 ∧ n ≤ 5 ∧ R < g ∧ g < w'.heap.size ∧ RowI w' (some ⟨g, o, none⟩) n p ∧ Rd w' R (P + c) ∧ Upd R w w'
set_option maxHeartbeats 4000000 in
theorem l20Proof_any (R P : Nat) (w : World) (h : Rd w R P) (hP : P ≤ 700000) :
    Calls Try.prog 61 #[.pointer (some ⟨R, 0, none⟩)] w (DrawP w R P 80 72) := by
  have hRw := h.lt
  go_enter Try.func61, Try.ntmps61
  go_wp2_with fail
  refine (l20Store_valid R P _ h (by omega)).mono ?_; rintro e w1 ⟨v, l, rfl, hown, hwf, hst, hr, hu⟩
  have HST := Lib.hid hst
  have hlen := store_len hst
  clear h hst
  go_wp2_with fail
  refine (l20Key_any R _ _ hr (by omega)).mono ?_; rintro e w2 ⟨key, rfl, hk0, hk1, hr2, hu2⟩
  have hown2 := hown.upd hu2 hRw
  have hu2' := hu.trans hu2
  clear hown hu hu2 hr
  have hsl2 := hown2.slice
  obtain ⟨gs, cs, rfl, hgs, hrow⟩ := rowE_of_own hown2 (by omega) hwf
  have hgs2 : gs < w2.heap.size := by obtain ⟨g', c', he, _, h2⟩ := hsl2; simp at he; omega
  clear hsl2
  go_wp2_with fail
  refine (valueAt_spec _ _ cs l key _ hrow).mono ?_; rintro e w3 ⟨rfl, hd3⟩
  have hval : -1 ≤ valueM l key ∧ valueM l key ≤ 1000000 := by
    have := atM_bd ((storeB_ok l).1 HST.out).2 key
    unfold valueM; split <;> omega
  obtain ⟨val, hv⟩ : ∃ val, val = valueM l key := ⟨_, rfl⟩
  rw [← hv] at hval ⊢
  clear hv
  have hb3 := hd3.below w2.heap.size
  have hs23 := hb3.size
  have hown3 := hown2.below hb3
  have hrow3 := hrow.below hb3
  have hu3 := hu2'.trans (Upd.ofBelow R hb3)
  have hr3 := hr2.below hb3
  clear hd3 hb3 hown2 hrow hu2' hr2
  go_wp2_with fail
  refine (proofOf_spec _ _ cs l key _ hrow3).mono ?_; rintro e w4 ⟨vp, rfl, hop, hwp, hb4⟩
  have hpm := proofM_yes HST.out hk0 hk1
  have hpl : (proofM l key).length = 5 := by rw [hpm]; exact proofTo_len _ _ _
  have hown4 := hown3.below hb4
  have hu4 := hu3.trans (Upd.ofBelow R hb4)
  have hr4 := hr3.below hb4
  have hs03 := hu3.size
  obtain ⟨L, hL⟩ : ∃ L, L = proofM l key := ⟨_, rfl⟩
  rw [← hL] at hop hwp hpl
  clear hL hpm hb4 hown3 hrow3 hu3 hr3
  obtain ⟨g, cp, rfl, hg0, hg1, hrp⟩ := rowI_of_own hop (by omega) hwp
  have hcp := hop.cap
  rw [hpl] at hop hcp hrp ⊢
  have hRg : R < g := by omega
  have HPL := Lib.hid hpl
  clear hpl
  go_wp2_with fail
  refine (odd_any R _ 2 _ hr4 (by omega) (by omega) (by omega)).mono ?_; rintro e w5 ⟨ob, rfl, hr5, hu5⟩
  have hown5 := hown4.upd hu5 hRw
  have hu5' := hu4.trans hu5
  have hop5 := hop.upd hu5 (by omega)
  have hrp5 := hu5.rowI hrp (fun b o e => by simp at e; omega)
  have hg5 : g < w5.heap.size := Nat.lt_of_lt_of_le hg1 hu5.size
  have hs05 := hu5'.size
  clear hown4 hop hrp hu4 hu5 hr4 hg1
  cases ob with
  | false =>
    go_wp2
    refine bodyPost_ret (results_tmp4 rfl _ _ _) rfl ?_
    exact ⟨_, l, key, val, g, 0, 5, cp, L, rfl, hown5, hwf, HST.out, by omega, by omega, by omega, by omega, by omega, hRg, hg5, hrp5, hr5.mono (by omega), hu5'⟩
  | true =>
    go_wp2_with fail
    refine (pick_pos R _ 5 _ hr5 (by omega) (by omega) (by omega)).mono ?_; rintro e w6 ⟨x6, rfl, hx0, hx1, hr6, hu6⟩
    have hown6 := hown5.upd hu6 hRw
    have hu6' := hu5'.trans hu6
    have hop6 := hop5.upd hu6 (by omega)
    have hrp6 := hu6.rowI hrp5 (fun b o e => by simp at e; omega)
    have hg6 : g < w6.heap.size := Nat.lt_of_lt_of_le hg5 hu6.size
    have hs06 := hu6'.size
    clear hown5 hop5 hrp5 hu5' hu6 hr5 hg5 hs05
    rcases (by omega : x6 = 0 ∨ x6 = 1 ∨ x6 = 2 ∨ x6 = 3 ∨ x6 = 4) with rfl | rfl | rfl | rfl | rfl
    · go_wp2_with fail
      refine (l20Value_any R _ _ hr6 (by omega)).mono ?_; rintro e w7 ⟨x7, rfl, hy0, hy1, hr7, hu7⟩
      go_wp2
      refine bodyPost_ret (results_tmp4 rfl _ _ _) rfl ?_
      exact ⟨_, l, key, x7, g, 0, 5, cp, L, rfl, hown6.upd hu7 hRw, hwf, HST.out, by omega, by omega, by omega, by omega, by omega, hRg, Nat.lt_of_lt_of_le hg6 hu7.size, hu7.rowI hrp6 (fun b o e => by simp at e; omega), hr7.mono (by omega), hu6'.trans hu7⟩
    · go_wp2_with fail
      refine (l20Key_any R _ _ hr6 (by omega)).mono ?_; rintro e w7 ⟨x7, rfl, hy0, hy1, hr7, hu7⟩
      go_wp2
      refine bodyPost_ret (results_tmp4 rfl _ _ _) rfl ?_
      exact ⟨_, l, x7, val, g, 0, 5, cp, L, rfl, hown6.upd hu7 hRw, hwf, HST.out, by omega, by omega, by omega, by omega, by omega, hRg, Nat.lt_of_lt_of_le hg6 hu7.size, hu7.rowI hrp6 (fun b o e => by simp at e; omega), hr7.mono (by omega), hu6'.trans hu7⟩
    · go_wp2_with fail
      refine (pick_pos R _ 5 _ hr6 (by omega) (by omega) (by omega)).mono ?_; rintro e w7 ⟨x7, rfl, hy0, hy1, hr7, hu7⟩
      go_wp2_with fail
      refine (pick_pos R _ 256 _ hr7 (by omega) (by omega) (by omega)).mono ?_; rintro e w8 ⟨x8, rfl, hz0, hz1, hr8, hu8⟩
      go_wp2_with fail
      refine (pick_pos R _ 3 _ (hr8.alloc _) (by omega) (by omega) (by omega)).mono ?_; rintro e w9 ⟨x9, rfl, ha0, ha1, hr9, hu9⟩
      have hRb := hr8.lt
      have hcell : ∃ y, w9.cell? ⟨w8.heap.size, x9.toNat, none⟩ = some (.int .i64 y) ∧ -1 ≤ y ∧ y ≤ 1000003 := by
        rcases (by omega : x9 = 0 ∨ x9 = 1 ∨ x9 = 2) with rfl | rfl | rfl <;> exact ⟨_, hu9.cell (by simp [go_sem]; rfl) (by omega), by omega, by omega⟩
      obtain ⟨y, hy, hy2, hy3⟩ := hcell
      have hu9' := (hu7.trans hu8).trans (((Upd.refl R w8).alloc _).trans hu9)
      have hown9 := hown6.upd hu9' hRw
      have hop9 := hop6.upd hu9' (by omega)
      have hg9 : g < w9.heap.size := Nat.lt_of_lt_of_le hg6 hu9'.size
      have hu9'' := hu6'.trans hu9'
      clear hown6 hop6 hrp6 hu7 hu8 hu9 hu6' hg6 hs06 hu9'
      obtain ⟨i, rfl⟩ : ∃ i : Nat, x7 = (i : Int) := ⟨x7.toNat, by omega⟩
      have hi5 : i < 5 := by omega
      have hfr := hop9.1.frozenAt i
      have hce := hop9.1.cellAt i (by omega)
      rw [List.getElem?_map, List.getElem?_eq_getElem (by rw [HPL.out]; exact hi5)] at hce
      simp only [Option.map_some] at hce
      have hst := (hop9.1.stored i (.int .i64 y)).1
      rw [← List.map_set] at hst
      have hrp := rowI_owned hst (by omega) (fun x hx => by
        rcases List.mem_or_eq_of_mem_set hx with h | h
        · exact hwp x h
        · rw [h]; exact WalkArith.wf_i64 (by omega))
      have HRP := Lib.hid hrp
      obtain ⟨d, hd⟩ : ∃ d, d = L[i]'(by rw [HPL.out]; exact hi5) := ⟨_, rfl⟩
      rw [← hd] at hce
      clear hd hst hrp
      have hgr := grownBy_set w9 g i (.int .i64 y)
      have hownF : Own (w9.setCell ⟨g, i, none⟩ (.int .i64 y)) w.heap.size 72 2 (.slice (some ⟨gs, 0, none⟩) l.length cs) l.length (flatE l) := ⟨hown9.1.kept hgr (.inr (by simp [Value.ownBlock]; omega)), hown9.2⟩
      have hrF := hr9.grown hgr (fun k hk => by simp at hk; omega)
      have huF : Upd R w (w9.setCell ⟨g, i, none⟩ (.int .i64 y)) := hu9''.setNew (by omega)
      have HOF := Lib.hid hownF
      have HUF := Lib.hid huF
      have HRF := Lib.hid hrF
      clear hownF huF hrF hgr hown9 hop9 hu9'' hr9
      go_wp2
      refine bodyPost_ret (results_tmp4 rfl _ _ _) rfl ?_
      exact ⟨_, l, key, val, g, 0, 5, cp, L.set i y, rfl, HOF.out, hwf, HST.out, by omega, by omega, by omega, by omega, by omega, hRg, by rw [size_setCell]; exact hg9, HRP.out, HRF.out.mono (by omega), HUF.out⟩
    · have HT := Lib.hid (RowI.tail (n := 4) hrp6)
      have hne1 : ¬ 1 = cp := by omega
      have hne2 : ¬ cp = 1 := by omega
      go_wp2
      refine bodyPost_ret (results_tmp4 rfl _ _ _) rfl ?_
      refine ⟨_, l, key, val, g, 1, 4, cp - 1, L.drop 1, ?_, hown6, hwf, HST.out, by omega, by omega, by omega, by omega, by omega, hRg, hg6, HT.out, hr6.mono (by omega), hu6'⟩
      rfl
    · go_wp2
      refine bodyPost_ret (results_tmp4 rfl _ _ _) rfl ?_
      exact ⟨_, l, key, 1000001, g, 0, 5, cp, L, rfl, hown6, hwf, HST.out, by omega, by omega, by omega, by omega, by omega, hRg, hg6, hrp6, hr6.mono (by omega), hu6'⟩
end Go.Proofs.Ytpaeioabmmkheaa

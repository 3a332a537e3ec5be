/- The walk of the law FnSumMore. -/
import Derived.Test.YtikcadapbeokoaaLawSumOf
import Derived.Test.YtikcadapbeokoaaMoreWalks
import Derived.Test.YtikcadapbeokoaaDrawMore
namespace Go.Proofs.Ytikcadapbeokoaa
open Go.RowKit
theorem sumMoreM_ge (s n : Int) : -1 ≤ sumMoreM s n := by
  unfold sumMoreM; split
  · have := (sumStep_bd s n).1; omega
  · omega
theorem sumOfM_snoc (t : Int) (l : List Int) (x : Int) (h : 0 ≤ sumOfM t l) (h0 : 0 ≤ x) (h1 : x ≤ 2000000) : sumMoreM (sumOfM t l) x = sumOfM t (l ++ [x]) := by
  rcases sumOfM_cases t l with hv | ⟨a0, a9, hall, hv, hv0, hv1⟩
  · omega
  · rw [sumMoreM_yes _ _ hv0 hv1 h0 h1, sumOfM_yes t (l ++ [x]) a0 a9 (by simp only [List.all_append, hall, List.all_cons, List.all_nil, okSummed]; simp; omega), sumFold_snoc, ← hv]; rfl
set_option maxHeartbeats 2000000 in
theorem lawSumMore (a : Option Addr) (len cap : Nat) (z : List Int) (a' : Option Addr) (len' cap' : Nat) (z' : List Int) (w : World) (h : RowB w a len z) (hlc : len ≤ cap) (h' : RowB w a' len' z') (hlc' : len' ≤ cap') :
    Calls Try.prog 4 #[.slice a len cap, .slice a' len' cap'] w (LawTrue w) := by
  by_cases hs : len ≤ 1048576 ∧ len' ≤ 1048576
  · obtain ⟨hs, hs2⟩ := hs
    have hb1 : decide ((1048576 : Int) < (len : Int)) = false := by simp; omega
    have hb2 : decide ((1048576 : Int) < (len' : Int)) = false := by simp; omega
    go_enter Try.func4, Try.ntmps4
    go_wp2_with fail
    refine (drawSumMore_any a len cap z w h hlc).mono ?_
    rintro e w1 ⟨s, x, rfl, hs0, hs1, hx0, hx1, hbl⟩
    have h2 : RowB w1 a' len' z' := by
      obtain ⟨q1, q2, q3, q4⟩ := h'
      refine ⟨q1, q2, fun hl => ?_, q4⟩
      obtain ⟨b, off, he, hc⟩ := q3 hl
      refine ⟨b, off, he, fun i hi => ?_⟩
      have hlt : b < w.heap.size := World.block_lt_of_cell? w ⟨b, off + i, none⟩ (hc i hi)
      rw [hbl.cell (p := ⟨b, off + i, none⟩) hlt]; exact hc i hi
    clear h hlc h' hs hs2 hb1 hb2
    go_wp2_with fail
    refine (sumMore_impl s x _).mono ?_; rintro e w' ⟨rfl, rfl⟩
    go_wp2_with fail
    refine (sumMore_spec s x _).mono ?_; rintro e w' ⟨rfl, rfl⟩
    have hM := sumMoreM_ge s x
    obtain ⟨M, hMe⟩ : ∃ M, M = sumMoreM s x := ⟨_, rfl⟩
    rw [← hMe] at hM ⊢
    clear hMe
    go_wp2_with fail
    refine (drawSumOf_any a' len' cap' z' w1 h2 hlc').mono ?_
    rintro e w2 ⟨t, a1, n, c1, l, rfl, ht0, ht1, hn, hr, hb2⟩
    clear h2 hlc'
    have hb := hbl.trans (hb2.mono hbl.size)
    clear hbl hb2
    go_wp2_with fail
    refine (sumOf_impl t (some a1) n c1 l _ hr).mono ?_; rintro e w' ⟨rfl, rfl⟩
    have HS := Lib.hid (sumOfM_snoc t l x)
    have HC := Lib.hid (sumOfM_cases t l)
    obtain ⟨N, hN⟩ : ∃ N, N = sumOfM t l := ⟨_, rfl⟩
    rw [← hN] at HS HC ⊢
    clear hN
    by_cases hbad : N < 0 ∨ x < 0 ∨ 2000000 < x
    · have kM : decide (-1 ≤ M) = true := by simpa using hM
      clear HS HC
      by_cases c1 : N < 0
      · have k1 : decide (N < 0) = true := by simpa using c1
        clear c1 hbad
        go_wp2_with fail
        refine (alive_any _).mono ?_; rintro e w' ⟨rfl, hb3⟩
        go_wp2
        go_ret
        exact ⟨rfl, hb.trans (hb3.mono hb.size)⟩
      · have k1 : decide (N < 0) = false := by simpa using c1
        by_cases c2 : x < 0
        · have k2 : decide (x < 0) = true := by simpa using c2
          clear c1 c2 hbad
          go_wp2_with fail
          refine (alive_any _).mono ?_; rintro e w' ⟨rfl, hb3⟩
          go_wp2
          go_ret
          exact ⟨rfl, hb.trans (hb3.mono hb.size)⟩
        · have k2 : decide (x < 0) = false := by simpa using c2
          have k3 : decide (2000000 < x) = true := by simp; omega
          clear c1 c2 hbad
          go_wp2_with fail
          refine (alive_any _).mono ?_; rintro e w' ⟨rfl, hb3⟩
          go_wp2
          go_ret
          exact ⟨rfl, hb.trans (hb3.mono hb.size)⟩
    · have k1 : decide (N < 0) = false := by simp; omega
      have k2 : decide (x < 0) = false := by simp; omega
      have k3 : decide (2000000 < x) = false := by simp; omega
      have hN0 : 0 ≤ N := by omega
      have hN1 : N ≤ 1000002 := by
        rcases HC.out with h | ⟨_, _, _, _, _, h⟩ <;> omega
      have hxx0 : 0 ≤ x := by omega
      have hxx1 : x ≤ 2000000 := by omega
      have HS2 := Lib.hid (HS.out hN0 hxx0 hxx1)
      clear HS HC hbad
      go_wp2_with fail
      refine (sumMore_impl N x _).mono ?_; rintro e w' ⟨rfl, rfl⟩
      obtain ⟨i0, hi, hz0, hz1, hz2⟩ := info_parts infoIntD
      have HR := Lib.hid hr
      have hl := hr.1
      have HL := Lib.hid hl
      clear hr hl
      have hown0 := World.ownsRow_lit (w := w2) (base := w2.heap.size) (e := 3) (size := 1) #[] 0 (Nat.le_refl _) (by simp) rfl
      have fin : ∀ (W : World) (v : Value) (e0 : Nat), W.ownsRow w2.heap.size 3 1 v (n + 1) ((l ++ [x]).map (Value.int .i64)) → ∃ aa cc, v = .slice aa (n + 1) cc ∧ RowI W aa (n + 1) (l ++ [x]) := by
        intro W v _ ho
        exact rowI_of_owns ho (by unfold maxLen; omega) (fun y hy => by
          rcases List.mem_append.1 hy with h | h
          · exact HR.out.2.2.2 y h
          · simp at h; subst h; exact WalkArith.wf_i64 (by omega))
      have FIN := Lib.hid fin
      clear fin
      go_wp2_with (at_builtin; refine wpList_append_own _ rfl _ _ 23 rfl w2.heap.size 3 i0 (.int .i64 0) 1 8 Try.underlying23 hi hz0 hz1 hz2 rfl (by decide) _ _ _ rfl hown0 a1 n c1 (l.map (Value.int .i64)) rfl (by simp [HL.out]) ?c1 ?c2 ?c3 ?c4 ?c5 ?_)
      case c1 =>
        intro j u hu
        have hj : j < n := by
          have := (List.getElem?_eq_some_iff.1 hu).1
          simpa [HL.out] using this
        rw [List.getElem?_map, List.getElem?_eq_getElem (by rw [HL.out]; exact hj)] at hu
        simp only [Option.map_some, Option.some.injEq] at hu
        obtain ⟨b, off, he, hc⟩ := HR.out.2.2.1 (by omega)
        obtain rfl := Option.some.inj he
        have hcj := hc j hj
        rw [show (⟨b, off, none⟩ : Addr).add j = ⟨b, off + j, none⟩ by simp [Addr.add]]
        rw [World.cell?_alloc_lt _ _ _ (World.block_lt_of_cell? w2 _ hcj), hcj, ← hu, List.getD_eq_getElem?_getD, List.getElem?_eq_getElem (by rw [HL.out]; exact hj)]; rfl
      case c2 => intro u hu; obtain ⟨y, _, rfl⟩ := List.mem_map.1 hu; rfl
      case c3 => unfold maxLen; omega
      case c4 => omega
      case c5 => simp
      intro v' w3 hown' hgrow _
      try simp only [List.nil_append, Nat.zero_add] at hown'
      have hb3 : Below w.heap.size w w3 := (hb.alloc hb.size _).grown hgrow (by have := hb.size; simp; omega) (fun k hk => by simp [Value.ownBlock] at hk; have := hb.size; omega)
      have hs3 : w2.heap.size ≤ w3.heap.size := by have := hgrow.size; simp at this; omega
      clear hgrow hown0
      go_wp2_with (at_builtin; refine wpList_append_own _ rfl _ _ 23 rfl w2.heap.size 3 i0 (.int .i64 0) 1 8 Try.underlying23 hi hz0 hz1 hz2 rfl (by decide) _ _ _ rfl (hown'.alloc _) ⟨w3.heap.size, 0, none⟩ 1 1 [.int .i64 x] rfl rfl ?d1 ?d2 ?d3 ?d4 ?d5 ?_)
      case d1 =>
        intro j u hj
        match j, hj with
        | 0, hj => simp at hj; subst hj; simp [Addr.add]
      case d2 => intro u hu; simp at hu; subst hu; rfl
      case d3 => unfold maxLen; omega
      case d4 => omega
      case d5 => simp; omega
      intro v'' w4 hown'' hgrow _
      have hb4 : Below w.heap.size w w4 := (hb3.alloc hb3.size _).grown hgrow (by have := hb3.size; simp; omega) (fun k hk => by have := (hown'.lt k hk).1; have := hb.size; omega)
      obtain ⟨aa, cc, hv, hr4⟩ := FIN.out w4 v'' 0 (by simpa using hown'')
      have HR4 := Lib.hid hr4
      clear hr4 hown'' hgrow hown' 
      rw [hv]
      clear hv
      go_wp2_with fail
      refine (sumOf_impl t aa (n + 1) cc (l ++ [x]) _ HR4.out).mono ?_; rintro e w' ⟨rfl, rfl⟩
      have hq : (sumMoreM N x == sumOfM t (l ++ [x])) = true := by simpa using HS2.out
      go_wp2
      go_ret
      exact ⟨rfl, hb4⟩
  · have hb : (decide ((1048576 : Int) < (len : Int)) || decide ((1048576 : Int) < (len' : Int))) = true := by simp; omega
    clear h hlc h' hlc'
    by_cases h1 : len ≤ 1048576
    · have e1 : decide ((1048576 : Int) < (len : Int)) = false := by simp; omega
      have e2 : decide ((1048576 : Int) < (len' : Int)) = true := by simp; omega
      clear hb
      go_enter Try.func4, Try.ntmps4
      go_wp2
      go_ret
      exact ⟨rfl, Below.refl _ _⟩
    · have e1 : decide ((1048576 : Int) < (len : Int)) = true := by simp; omega
      clear hb
      go_enter Try.func4, Try.ntmps4
      go_wp2
      go_ret
      exact ⟨rfl, Below.refl _ _⟩
end Go.Proofs.Ytikcadapbeokoaa

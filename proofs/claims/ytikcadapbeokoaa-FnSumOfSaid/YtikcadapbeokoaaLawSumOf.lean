/- The walk of the law FnSumOf. -/
import Derived.Test.YtikcadapbeokoaaDrawSumOf
import Derived.Test.YtikcadapbeokoaaSumWalks
namespace Go.Proofs.Ytikcadapbeokoaa
open Go.RowKit
/-- The law's end: true, and nothing that was there has turned. -/
def LawTrue (w : World) (e : Ending) (w' : World) : Prop := e = .returned (.bool true) ∧ Below w.heap.size w w'
theorem sumOfM_cases (t : Int) (l : List Int) : (sumOfM t l = -1) ∨ (0 ≤ t ∧ t ≤ 9 ∧ l.all okSummed = true ∧ sumOfM t l = sumFold (17 + t) l ∧ 0 ≤ sumOfM t l ∧ sumOfM t l ≤ 1000002) := by
  by_cases h1 : 0 ≤ t ∧ t ≤ 9
  · by_cases h2 : l.all okSummed = true
    · have e := sumOfM_yes t l h1.1 h1.2 h2
      have := sumFold_bd (17 + t) l (by omega) (by omega)
      exact .inr ⟨h1.1, h1.2, h2, e, by omega, by omega⟩
    · left; simp [sumOfM, h2]
  · left; exact sumOfM_no t l h1
theorem rowI_empty (w : World) (a : Option Addr) : RowI w a 0 [] := ⟨rfl, by unfold maxLen; omega, fun h => absurd h (by omega), fun n hn => by cases hn⟩
theorem alive_any (w : World) : Calls Try.prog 10 #[] w (LawTrue w) := by
  go_enter Try.func10, Try.ntmps10
  go_wp2_with fail
  refine (sumOf_impl 0 _ 0 0 [] _ (rowI_empty _ _)).mono ?_; rintro e w' ⟨rfl, rfl⟩
  have e : sumOfM 0 [] = 17 := rfl
  rw [e]; clear e
  go_wp2
  go_ret
  exact ⟨rfl, (Below.refl _ _).alloc (Nat.le_refl _) _⟩
set_option maxHeartbeats 2000000 in
theorem lawSumOf (a : Option Addr) (len cap : Nat) (z : List Int) (w : World) (h : RowB w a len z) (hlc : len ≤ cap) :
    Calls Try.prog 3 #[.slice a len cap] w (LawTrue w) := by
  by_cases hs : len ≤ 1048576
  · have hs' : ¬ (1048576 : Int) < (len : Int) := by omega
    go_enter Try.func3, Try.ntmps3
    go_wp2_with fail
    refine (drawSumOf_any a len cap z w h hlc).mono ?_
    rintro e w1 ⟨t, a1, n, c1, l, rfl, ht0, ht1, hn, hr, hb⟩
    clear h hlc hs hs'
    go_wp2_with fail
    refine (sumOf_impl t (some a1) n c1 l _ hr).mono ?_; rintro e w' ⟨rfl, rfl⟩
    go_wp2_with fail
    refine (sumOf_spec t (some a1) n c1 l _ hr).mono ?_; rintro e w' ⟨rfl, rfl⟩
    rcases sumOfM_cases t l with hv | ⟨h0, h9, hall, hv, hv0, hv1⟩
    · rw [hv]
      clear hv
      go_wp2_with fail
      refine (alive_any _).mono ?_; rintro e w' ⟨rfl, hb2⟩
      go_wp2
      go_ret
      exact ⟨rfl, hb.trans (hb2.mono hb.size)⟩
    · have HV := Lib.hid hv; clear hv
      obtain ⟨N, hN⟩ : ∃ N, N = sumOfM t l := ⟨_, rfl⟩
      have hHN := Lib.hid hN
      rw [← hN] at hv0 hv1 ⊢
      clear hN
      have hNb : decide (N < 0) = false := by simp; omega
      obtain ⟨i0, hi, hz0, hz1, hz2⟩ := info_parts infoIntD
      have hl := hr.1
      have hmod : 0 ≤ (t + 1) % 10 ∧ (t + 1) % 10 ≤ 9 ∧ (t + 1) % 10 ≠ t := by omega
      have hfin : sumOfM ((t + 1) % 10) l ≠ N := by
        rw [hHN.out, HV.out, sumOfM_yes _ l hmod.1 hmod.2.1 hall]
        intro e
        have := sumFold_inj l _ _ (by omega) (by omega) (by omega) (by omega) e
        omega
      have HF := Lib.hid hfin; clear hfin
      have hset : ∀ k y, k < n → (y = l.getD k 0 + 1 ∨ y = l.getD k 0 - 1) → 0 ≤ y → y ≤ 2000000 → sumOfM t (l.set k y) ≠ N := by
        intro k y hk hy hy0 hy1
        have hall2 : (l.set k y).all okSummed = true := by
          rw [List.all_eq_true]; intro x hx
          rcases List.mem_or_eq_of_mem_set hx with h | h
          · exact (List.all_eq_true.1 hall) x h
          · subst h; simp only [okSummed, decide_eq_true_eq]; omega
        rw [hHN.out, HV.out, sumOfM_yes t _ h0 h9 hall2]
        exact sumFold_set _ l k y (by omega) (by omega) (by omega) hy
      have HS := Lib.hid hset; clear hset
      have hbd : ∀ k, k < n → 0 ≤ l.getD k 0 ∧ l.getD k 0 ≤ 2000000 := fun k hk => all_bd l hall k (by omega)
      have HB := Lib.hid hbd
      have HL := Lib.hid hl
      have HR := Lib.hid hr
      have HM := Lib.hid hmod
      clear hbd hl hmod hall
      by_cases hn0 : 0 < n
      · obtain ⟨b, off, he, hc⟩ := hr.2.2.1 hn0
        obtain rfl := Option.some.inj he
        clear he
        have HC := Lib.hid hc
        clear hr hc
        go_wp2_with fail
        go_loopw [6] (fun i wr => ∃ k : Nat, k ≤ n ∧ i = .int .i64 k ∧ Below w1.heap.size w1 wr) (fun i _ => n - (intOf i).toNat)
        case atStart => exact ⟨0, Nat.zero_le _, rfl, Below.refl _ _⟩
        case round =>
          obtain ⟨k, hk, rfl, hbr⟩ := hrel
          by_cases hlt : k < n
          · go_wp2_with (at_builtin; refine wpList_append_own _ rfl _ _ 23 rfl wr.heap.size 3 i0 (.int .i64 0) 1 8 Try.underlying23 hi hz0 hz1 hz2 rfl (by decide) _ _ _ rfl (World.ownsRow_lit (w := wr) (base := wr.heap.size) (e := 3) (size := 1) #[] 0 (Nat.le_refl _) (by simp) rfl) ⟨b, off, none⟩ n c1 (l.map (Value.int .i64)) rfl (by simp [HL.out]) ?c1 ?c2 ?c3 ?c4 ?c5 ?_)
            case c1 =>
              intro j u hu
              have hj : j < n := by
                have := (List.getElem?_eq_some_iff.1 hu).1
                simpa [HL.out] using this
              rw [List.getElem?_map, List.getElem?_eq_getElem (by rw [HL.out]; exact hj)] at hu
              simp only [Option.map_some, Option.some.injEq] at hu
              have hcj := HC.out j hj
              have hlt' : b < w1.heap.size := World.block_lt_of_cell? w1 ⟨b, off + j, none⟩ hcj
              rw [show (⟨b, off, none⟩ : Addr).add j = ⟨b, off + j, none⟩ by simp [Addr.add]]
              rw [(hbr.alloc hbr.size _).cell (p := ⟨b, off + j, none⟩) hlt', hcj, ← hu, List.getD_eq_getElem?_getD, List.getElem?_eq_getElem (by rw [HL.out]; exact hj)]; rfl
            case c2 => intro u hu; obtain ⟨x, _, rfl⟩ := List.mem_map.1 hu; rfl
            case c3 => unfold maxLen; omega
            case c4 => omega
            case c5 => simp
            intro v' w2 hown' hgrow _
            try simp only [List.nil_append, Nat.zero_add] at hown'
            have hb2 : Below w1.heap.size w1 w2 := (hbr.alloc hbr.size _).grown hgrow (by have := hbr.size; simp; omega) (fun k hk => by simp [Value.ownBlock] at hk; have := hbr.size; omega)
            have hex : ∃ g cg, v' = .slice (some ⟨g, 0, none⟩) n cg ∧ wr.heap.size ≤ g := by
              rcases hown'.2 with ⟨_, h⟩ | ⟨g, cg, cur, h, hg, _⟩
              · omega
              · exact ⟨g, cg, h, hg⟩
            obtain ⟨g, cg, hv, hg⟩ := hex
            have hv2 : v' = .slice (some ⟨g, 0, none⟩) (0 + n) cg := by rw [Nat.zero_add]; exact hv
            clear hgrow
            rw [hv] at hown' ⊢
            clear hv hv2
            have hx := HB.out k hlt
            have hce := hown'.cellAt k (by omega)
            rw [List.getElem?_map, List.getElem?_eq_getElem (by rw [HL.out]; exact hlt)] at hce
            simp only [Option.map_some] at hce
            have hxx : l[k]'(by rw [HL.out]; exact hlt) = l.getD k 0 := by rw [List.getD_eq_getElem?_getD, List.getElem?_eq_getElem (by rw [HL.out]; exact hlt)]; rfl
            rw [hxx] at hce
            have hfr := hown'.frozenAt k
            have hxor := xor_one_i64 (l.getD k 0) hx.1 (by omega)
            obtain ⟨y, hy⟩ : ∃ y, bits .xor .i64 (l.getD k 0) 1 = y := ⟨_, rfl⟩
            rw [hy] at hxor
            have HXor := Lib.hid hxor
            have hst := (hown'.stored k (.int .i64 y)).1
            rw [← List.map_set] at hst
            have HST := Lib.hid hst
            have hsb := hb2.setCell (p := ⟨g, k, none⟩) (by have := hbr.size; simp; omega) (.int .i64 y)
            have HSk := Lib.hid (HS.out k y hlt)
            obtain ⟨x, hxe⟩ : ∃ x, x = l.getD k 0 := ⟨_, rfl⟩
            have HXE := Lib.hid hxe
            rw [← hxe] at hce hy hxor hx
            clear hxe hst hown' hxx hx hbr
            obtain ⟨hy0, hy1, hy2⟩ := hxor
            clear hy2
            by_cases hy3 : y ≤ 2000000
            · have hneq := HSk.out (by have := HXor.out; omega) hy0 hy3
              have hq : (sumOfM t (l.set k y) == N) = false := by simpa using hneq
              obtain ⟨a', cap', hv', hr'⟩ := rowI_of_owns HST.out (by unfold maxLen; omega) (fun x hx => by
                rcases List.mem_or_eq_of_mem_set hx with h | h
                · exact HR.out.2.2.2 x h
                · subst h; exact WalkArith.wf_i64 (by omega))
              simp only [Value.slice.injEq] at hv'
              obtain ⟨rfl, -, rfl⟩ := hv'
              have HR' := Lib.hid hr'
              clear hr' hneq
              go_wp2_with fail
              refine (sumOf_impl t _ n cg (l.set k y) _ HR'.out).mono ?_; rintro e w' ⟨rfl, rfl⟩
              go_wp2
              go_roundw
              case rel => exact ⟨k + 1, by omega, by go_num, hsb⟩
              case measure => simp [intOf]; omega
            · go_wp2
              go_roundw
              case rel => exact ⟨k + 1, by omega, by go_num, hsb⟩
              case measure => simp [intOf]; omega
          · have hr' := HR.out.below hbr
            have hm := HM.out
            have hfq : (sumOfM ((t + 1) % 10) l != N) = true := by simpa using HF.out
            have hNc : decide (N < 1000003) = true := by simp; omega
            go_wp2_with fail
            refine (sumOf_impl ((t + 1) % 10) _ n c1 l _ hr').mono ?_; rintro e w' ⟨rfl, rfl⟩
            go_wp2
            go_ret
            exact ⟨rfl, hb.trans (hbr.mono hb.size)⟩
      · obtain rfl : n = 0 := by omega
        have hm := HM.out
        have hfq : (sumOfM ((t + 1) % 10) l != N) = true := by simpa using HF.out
        have hNc : decide (N < 1000003) = true := by simp; omega
        go_wp2_with fail
        go_loop [6] (fun i => i = .int .i64 0) (fun _ => 0)
        case atStart => rfl
        case round =>
          subst hrel
          go_wp2_with fail
          refine (sumOf_impl ((t + 1) % 10) _ 0 c1 l _ hr).mono ?_; rintro e w' ⟨rfl, rfl⟩
          go_wp2
          go_ret
          exact ⟨rfl, hb⟩
  · have hs' : (1048576 : Int) < (len : Int) := by omega
    clear h hlc
    go_enter Try.func3, Try.ntmps3
    go_wp2
    go_ret
    exact ⟨rfl, Below.refl _ _⟩
end Go.Proofs.Ytikcadapbeokoaa

/- The contracts of the model's RootOf and ProofOf. -/
import Derived.Test.YtpaeioabmmkheaaTreeSpec
namespace Go.Proofs.Ytpaeioabmmkheaa
open Go.RowKit
theorem rootOf_spec (a : Option Addr) (n cap : Nat) (l : List Ent) (w : World) (h : RowE w a n l) :
    Calls Try.prog 21 #[.slice a n cap] w (IntB (rootM l) w) := by
  cases hs : storeB l with
  | false =>
    have HF : Hid (rootM l = -1) := Lib.hid (by simp [rootM, hs])
    go_enter Try.func21, Try.ntmps21
    go_wp2_with fail
    refine (storeValid_spec a n cap l _ h).mono ?_; rintro e w1 ⟨rfl, hd1⟩
    rw [hs]
    go_wp2
    go_ret
    exact ⟨ret_int HF.out.symm, hd1.below _⟩
  | true =>
    go_enter Try.func21, Try.ntmps21
    go_wp2_with fail
    refine (storeValid_spec a n cap l _ h).mono ?_; rintro e w1 ⟨rfl, hd1⟩
    rw [hs]
    have HR1 := Lib.hid (h.below (hd1.below _))
    have hb1 := hd1.below w.heap.size
    clear hd1 h
    have HC := Lib.hid (fun (w : World) h => l3Level_spec a n cap l 5 w h hs (by omega))
    have HF : Hid (rootM l = (levelL l 5).getD 0 0) := Lib.hid (by rw [levelL_get l 5 0 (by decide)]; simp [rootM, hs])
    clear hs
    go_wp2_with fail
    refine (HC.out _ HR1.out).mono ?_; rintro e w2 ⟨v, rfl, hown, hwf, hb2⟩
    have hln := levelL_len l 5
    obtain ⟨g, c, rfl, -, -, hrow⟩ := rowI_of_own hown (by rw [hln]; decide) hwf
    obtain ⟨b', off', he, hcc⟩ := hrow.2.2.1 (by rw [hln]; decide)
    simp at he
    obtain ⟨rfl, rfl⟩ := he
    have hc := hcc 0 (by rw [hln]; decide)
    rw [hln]
    clear hrow hcc hown hwf hln HC
    obtain ⟨x, hx⟩ : ∃ x, x = (levelL l 5).getD 0 0 := ⟨_, rfl⟩
    rw [← hx] at hc HF
    clear hx
    go_wp2
    go_ret
    exact ⟨ret_int HF.out.symm, hb1.trans (hb2.mono hb1.size)⟩
set_option maxHeartbeats 4000000 in
theorem proofOf_spec (a : Option Addr) (n cap : Nat) (l : List Ent) (key : Int) (w : World) (h : RowE w a n l) :
    Calls Try.prog 28 #[.slice a n cap, .int .i64 key] w (NewL w 3 (proofM l key)) := by
  have hnil : Own (w.alloc (.cells #[] 3)) w.heap.size 3 1 (.slice (some ⟨w.heap.size, 0, none⟩) 0 0) 0 [] := own_lit 3 1 #[] 0 (Nat.le_refl _) (by simp) rfl
  have hb0 := (Below.refl w.heap.size w).alloc (Nat.le_refl _) (.cells #[] 3)
  cases hs : storeB l with
  | false =>
    have HP : Hid (proofM l key = []) := Lib.hid (by simp [proofM, hs])
    go_enter Try.func28, Try.ntmps28
    go_wp2
    go_loopw [5, 6] (fun v i wr => v = .slice (some ⟨w.heap.size, 0, none⟩) 0 0 ∧ i = .int .i64 0 ∧ Own wr w.heap.size 3 1 (.slice (some ⟨w.heap.size, 0, none⟩) 0 0) 0 [] ∧ Below w.heap.size w wr) (fun _ _ _ => 0)
    case atStart => exact ⟨rfl, rfl, hnil, hb0⟩
    case round =>
      obtain ⟨rfl, rfl, hown, hb⟩ := hrel
      clear hnil hb0
      go_wp2_with fail
      refine (storeValid_spec a n cap l _ (h.below hb)).mono ?_; rintro e w' ⟨rfl, q, rfl⟩
      rw [hs]
      go_wp2
      go_ret
      exact ⟨_, rfl, by rw [HP.out]; exact hown.drewN q, (by rw [HP.out]; intro x hx; cases hx), below_drewN' hb q⟩
  | true =>
    cases e1 : inB key 0 31 with
    | false =>
      have HP : Hid (proofM l key = []) := Lib.hid (by simp [proofM, e1])
      go_enter Try.func28, Try.ntmps28
      go_wp2
      go_loopw [5, 6] (fun v i wr => v = .slice (some ⟨w.heap.size, 0, none⟩) 0 0 ∧ i = .int .i64 0 ∧ Own wr w.heap.size 3 1 (.slice (some ⟨w.heap.size, 0, none⟩) 0 0) 0 [] ∧ Below w.heap.size w wr) (fun _ _ _ => 0)
      case atStart => exact ⟨rfl, rfl, hnil, hb0⟩
      case round =>
        obtain ⟨rfl, rfl, hown, hb⟩ := hrel
        clear hnil hb0
        go_wp2_with fail
        refine (storeValid_spec a n cap l _ (h.below hb)).mono ?_; rintro e w' ⟨rfl, q, rfl⟩
        rw [hs]
        go_wp2_with (first | (go_at_call 46; refine (l1In_spec _ _ _ _).mono ?_; rintro e w' ⟨rfl, rfl⟩))
        go_ret
        exact ⟨_, rfl, by rw [HP.out]; exact hown.drewN q, (by rw [HP.out]; intro x hx; cases hx), below_drewN' hb q⟩
    | true =>
      have h1 := inB_true e1
      obtain ⟨kn, rfl⟩ := Int.eq_ofNat_of_zero_le h1.1
      have hk31 : kn ≤ 31 := by omega
      have HP : Hid (proofM l (kn : Int) = proofTo l kn 5) := Lib.hid (proofM_yes hs h1.1 h1.2)
      have HC := Lib.hid (fun (lev : Nat) (hl : lev ≤ 5) (w : World) h => l3Level_spec a n cap l lev w h hs hl)
      have HW : Hid (∀ x ∈ proofTo l kn 5, (Lit.int .i64 x).wf = true) := Lib.hid (fun x hx => by
        have := proofTo_ok hs kn (by omega) 5 x hx
        exact WalkArith.wf_i64 (by omega))
      clear h1
      go_enter Try.func28, Try.ntmps28
      go_wp2
      go_loopw [5, 6] (fun v i wr => ∃ k : Nat, k ≤ 5 ∧ i = .int .i64 k ∧ Own wr w.heap.size 3 1 v k ((proofTo l kn k).map (Value.int .i64)) ∧ Below w.heap.size w wr) (fun _ i _ => 5 - (intOf i).toNat)
      case atStart => exact ⟨0, by omega, rfl, hnil, hb0⟩
      case round =>
        obtain ⟨k, hk, rfl, hown, hb⟩ := hrel
        clear hnil hb0
        by_cases hlt : k < 5
        · go_wp2_with fail
          refine (storeValid_spec a n cap l _ (h.below hb)).mono ?_; rintro e w1 ⟨rfl, hd1⟩
          rw [hs]
          have HR1 := Lib.hid ((h.below hb).below (hd1.below _))
          have hb1 := hb.trans (hd1.below _)
          have hown1 := hown.below (hd1.below _)
          clear hd1 hb hown h
          have hxo := xor_at kn k hk31
          have hsl := sib_lt kn k hlt hk31
          have HG := Lib.hid (levelL_get l k (sibN (kn / 2 ^ k)) hsl)
          have HL := Lib.hid (levelL_len l k)
          rw [← HL.out] at hsl
          have hlen32 : (levelL l k).length ≤ 32 := by rw [HL.out]; exact Nat.div_le_self _ _
          have HN := Lib.hid (proofTo_next l kn k)
          obtain ⟨s, hs'⟩ : ∃ s, s = sibN (kn / 2 ^ k) := ⟨_, rfl⟩
          rw [← hs'] at hxo hsl HG HN
          obtain ⟨x, hx⟩ : ∃ x, x = nodeM l k s := ⟨_, rfl⟩
          rw [← hx] at HG HN
          clear hs' hx
          have HCk := Lib.hid (HC.out k (by omega))
          have hq1 : (s : Int) < ((levelL l k).length : Int) := by omega
          go_wp2_with (first | (go_at_call 46; refine (l1In_spec _ _ _ _).mono ?_; rintro e w' ⟨rfl, rfl⟩))
          have hsz1 := hb1.size
          go_region_law (first | (refine step_append_one rfl (.tmp 20) (.tmp 30) 28 rfl w.heap.size 3 _ (.int .i64 0) 1 8 Try.underlying28 infoIntC rfl (by decide) u5 k _ [.int .i64 x] (by rfl) hown3.1 (by rfl) rfl (by intro u hu; simp at hu; subst hu; rfl) (by omega) (by decide) hsz3 ?_; intro v1 w5 ho1' hnn hg1) | (go_simp; go_at_call 55; refine (HCk.out _ (show RowE w'.drew _ _ l from HR1.out)).mono ?_; rintro e w3 ⟨v3, rfl, how3, hwf3, hb3⟩; have hb3' : Below w'.heap.size w' w3 := (Below.refl _ w').drew.trans hb3; have hown3 := hown1.below hb3'; have hsz3 : w.heap.size ≤ w3.heap.size := Nat.le_trans hsz1 hb3'.size; obtain ⟨g, c, rfl, -, -, hrow⟩ := rowI_of_own how3 (by omega) hwf3; obtain ⟨b', off', he, hcc⟩ := hrow.2.2.1 (by omega); simp at he; obtain ⟨rfl, rfl⟩ := he; have hc := hcc s hsl; rw [HG.out, Nat.zero_add] at hc; clear hcc hrow how3 hwf3))
          all_goals
            have hb5 : Below w.heap.size w w5 := ((hb1.trans (hb3'.mono hsz1)).alloc hsz3 _).grown hg1 (by simp; omega) (fun k hk => (hown3.1.lt k hk).1)
            clear hg1 hb3 hb3' hown3 hxo hc
            go_wp2
            go_roundw
            case rel => exact ⟨k + 1, by omega, by go_num, by rw [HN.out, List.map_append]; exact ⟨ho1', hnn⟩, hb5⟩
            case measure => simp [intOf]; omega
        · have e : k = 5 := by omega
          have HO : Hid (Own wr w.heap.size 3 1 u5 (proofTo l kn 5).length ((proofTo l kn 5).map (Value.int .i64))) := Lib.hid (by subst e; rw [proofTo_len]; exact hown)
          clear hown e
          go_wp2
          go_ret
          exact ⟨_, rfl, by rw [HP.out]; exact HO.out, by rw [HP.out]; exact HW.out, hb⟩
end Go.Proofs.Ytpaeioabmmkheaa

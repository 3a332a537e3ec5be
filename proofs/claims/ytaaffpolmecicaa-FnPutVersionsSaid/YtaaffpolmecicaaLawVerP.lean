/- The walk of the law FnPutVersions. -/
import Derived.Test.YtaaffpolmecicaaLawVerD
import Derived.Test.YtaaffpolmecicaaImplVer2
namespace Go.Proofs.Ytaaffpolmecicaa
open Go.RowKit
set_option linter.unusedVariables false
set_option linter.unusedSimpArgs false
theorem rowE_empty0 (w : World) (a : Option Addr) : RowE w a 0 [] := ⟨rfl, by unfold maxLen; omega, fun h => absurd h (by omega), fun n hn => by cases hn⟩
/-- What the law asks of the versions that are put. -/
theorem put_parts {L : List Ver} {by_ : Int} {E : List Ent} : putVM L by_ E = ([], false) ∨
    (∃ X, putVM L by_ E = (X, true) ∧ versB X = true ∧ dropVM X by_ = dropVM L by_ ∧ (0 ≤ by_ ∧ by_ ≤ 9) ∧ ∀ k, k < E.length → readVM [] X (E.getD k (0, 0)).1 (by_ + 1) = ((E.getD k (0, 0)).2, by_)) := by
  cases h1 : versB L with
  | false => exact .inl (putVM_no (by rw [h1]; rfl))
  | true =>
    cases h2 : inB by_ 0 9 with
    | false => exact .inl (putVM_no (by rw [h1, h2]; rfl))
    | true =>
      cases h3 : writesB E with
      | false => exact .inl (putVM_no (by rw [h1, h2, h3]; rfl))
      | true =>
        have hL := (versB_ok L).1 h1
        have hb := inB_true h2
        have hX : versB (putL L by_ E) = true := (versB_ok _).2 (ok_putL hL h2 h3)
        refine .inr ⟨_, putVM_yes h1 h2 h3, hX, ?_, hb, fun k hk => ?_⟩
        · unfold dropVM; rw [hX, h1]; exact put_drop hL h2 h3
        · have hw := wrE_mem h3 k hk
          rw [readVM_yes (by rfl) hX (inB_yes hw.1.1 hw.1.2) (inB_yes (by omega) (by omega))]
          have hm : E.getD k (0, 0) ∈ E := by rw [List.getD_eq_getElem?_getD, List.getElem?_eq_getElem hk]; exact List.getElem_mem hk
          exact put_read hL h2 h3 [] hm
set_option maxHeartbeats 4000000 in
theorem lawPutVersions (a : Option Addr) (len cap : Nat) (z : List Int) (w : World) (h : RowB w a len z) (hc : a = none → cap = 0) (hlc : len ≤ cap) :
    Calls Try.prog 9 #[.slice a len cap] w (LawTrue w) := by
  by_cases hs : len ≤ 1048576
  · have hs' : ¬ (1048576 : Int) < (len : Int) := by omega
    go_enter Try.func9, Try.ntmps9
    go_wp2_with fail
    refine (drawPutVersions_any a len cap z w h hlc).mono ?_; rintro e w1 ⟨g, c, L, by_, a0, c0, E, rfl, hr, hrE, hcc, hl3, hE4, hbk, hb1⟩
    clear h hs hs' hc hlc
    obtain ⟨n, hn⟩ : ∃ n, n = L.length := ⟨_, rfl⟩
    have HL := Lib.hid hn.symm
    obtain ⟨m, hm⟩ : ∃ m, m = E.length := ⟨_, rfl⟩
    have HE := Lib.hid hm.symm
    rw [← hn] at hr hcc hl3 ⊢
    rw [← hm] at hrE hE4 ⊢
    clear hn hm
    have HP := Lib.hid (put_parts (L := L) (by_ := by_) (E := E))
    have hXl := putVM_len L by_ E
    obtain ⟨pz, hz⟩ : ∃ pz, putVM L by_ E = pz := ⟨_, rfl⟩
    rw [hz] at HP hXl
    have HZ := Lib.hid hz
    clear hz
    obtain ⟨X, ok⟩ := pz
    simp only at hXl
    have hok : (ok != ok) = false := by simp
    go_wp2_with fail
    refine (putVersions_impl _ n c L by_ _ m c0 E _ hr hrE).mono ?_; rintro e w2 ⟨v2, rfl, ho2, hw2, hb2'⟩
    rw [HZ.out] at ho2 hw2 ⊢
    simp only at ho2 hw2 ⊢
    obtain ⟨a2, c2, rfl, hr2, -, -, -⟩ := rowV_of_owns ho2 (by omega) hw2
    have hrL2 := hr.below hb2'
    have hrE2 := hrE.below hb2'
    have hb2 := hb1.trans (hb2'.mono hb1.size)
    clear hr hrE hb1 hb2' ho2
    go_wp2_with fail
    refine (putVersions_spec _ n c L by_ _ m c0 E _ hrL2 hrE2).mono ?_; rintro e w3 ⟨v3, rfl, ho3, hw3, hb3'⟩
    rw [HZ.out] at ho3 hw3 ⊢
    simp only at ho3 hw3 ⊢
    obtain ⟨g3, c3, rfl, -, -, hr3, -⟩ := rowV_of_own ho3 (by omega) hw3
    have hrL3 := hrL2.below hb3'
    have hrE3 := hrE2.below hb3'
    have hrX3 := hr2.below hb3'
    have hb3 := hb2.trans (hb3'.mono hb2.size)
    clear hrL2 hrE2 hr2 hb2 hb3' ho3
    go_wp2_with fail
    refine (sameVersions_same _ _ _ c2 c3 X _ hrX3 hr3).mono ?_; rintro e w4 ⟨rfl, hd4⟩
    have hrL4 := hrL3.below (hd4.below w3.heap.size)
    have hrE4 := hrE3.below (hd4.below w3.heap.size)
    have hrX4 := hrX3.below (hd4.below w3.heap.size)
    have hb4 := hb3.trans ((hd4.below _).mono hb3.size)
    clear hrL3 hrE3 hrX3 hr3 hd4 hb3
    rcases HP.out with hp | ⟨X', hp, hp1, hp2, hp3, hp4⟩
    · simp only [Prod.mk.injEq] at hp
      obtain ⟨rfl, rfl⟩ := hp
      clear hrL4 hrE4 hrX4
      go_wp2_with fail
      refine (alive_any _).mono ?_; rintro e w6 ⟨rfl, hb6'⟩
      go_wp2
      go_ret
      exact ⟨rfl, hb4.trans (hb6'.mono hb4.size)⟩
    · simp only [Prod.mk.injEq] at hp
      obtain ⟨rfl, rfl⟩ := hp
      have HP1 := Lib.hid hp1
      have HP2 := Lib.hid hp2
      have HP4 := Lib.hid hp4
      have HRL := Lib.hid hrL4
      have HRE := Lib.hid hrE4
      have HRX := Lib.hid hrX4
      have HB := Lib.hid hb4
      have hDl := dropVM_len L by_
      obtain ⟨D, hD⟩ : ∃ D, dropVM L by_ = D := ⟨_, rfl⟩
      rw [hD] at hDl HP2
      have HD := Lib.hid hD
      have k1 : IntKind.i64.wrap (by_ + 1) = by_ + 1 := IntWalk.i64_in _ (by omega)
      have hqq : (by_ != by_) = false := by simp
      clear hp1 hp2 hp4 HP hrL4 hrE4 hrX4 hb4 hD
      go_wp2
      go_loopw [10] (fun i wr => ∃ k : Nat, k ≤ m ∧ i = .int .i64 k ∧ Below w4.heap.size w4 wr) (fun i _ => m - (intOf i).toNat)
      case atStart => exact ⟨0, Nat.zero_le _, rfl, Below.refl _ _⟩
      case round =>
        obtain ⟨k, hk2, rfl, hb⟩ := hrel
        by_cases hlt : k < m
        · obtain ⟨b, o, rfl, hcc2⟩ := (HRE.out.below hb).2.2.1 (by omega)
          obtain ⟨d0, d1⟩ := hcc2 k hlt
          have HRD := Lib.hid (HP4.out k (by rw [HE.out]; exact hlt))
          obtain ⟨x, hx⟩ : ∃ x, x = E.getD k (0, 0) := ⟨_, rfl⟩
          rw [← hx] at d0 d1 HRD
          clear hx hcc2
          obtain ⟨p, q⟩ := x
          simp only at d0 d1 HRD
          have hvv : (q != q) = false := by simp
          have hbl := (Below.refl wr.heap.size wr).alloc (Nat.le_refl _) (.cells #[] 60)
          have hbw : b < wr.heap.size := World.block_lt_of_cell? wr ⟨b, o + k * 2, none⟩ d0
          have e0 : ∀ o', (wr.alloc o').cell? ⟨b, o + k * 2, none⟩ = some (.int .i64 p) := fun o' => (((Below.refl wr.heap.size wr).alloc (Nat.le_refl _) o').cell (p := ⟨b, o + k * 2, none⟩) hbw).trans d0
          go_wp2_with fail
          refine (readVersion_impl _ 0 0 [] _ _ c2 X p (by_ + 1) _ (rowE_empty0 _ _) ((HRX.out.below hb).below hbl)).mono ?_; rintro e w5 ⟨rfl, hb5'⟩
          rw [HRD.out]
          have hb5 := hb.trans ((hbl.trans (hb5'.mono hbl.size)).mono hb.size)
          have d1' := (hb5'.cell (p := ⟨b, o + k * 2 + 1, none⟩) (Nat.lt_of_lt_of_le hbw hbl.size)).trans ((hbl.cell (p := ⟨b, o + k * 2 + 1, none⟩) hbw).trans d1)
          clear e0 d0 d1 hbl hb5' hb
          go_wp2
          go_roundw
          case rel => exact ⟨k + 1, by omega, by go_num, hb5⟩
          case measure => simp [intOf]; omega
        · have hb4 := HB.out.trans (hb.mono HB.out.size)
          have hrX := HRX.out.below hb
          have hrL := HRL.out.below hb
          clear hb
          go_wp2_with fail
          refine (versionsValid_impl _ _ c2 X _ hrX).mono ?_; rintro e w5 ⟨rfl, hb5'⟩
          rw [HP1.out]
          have hrX5 := hrX.below hb5'
          have hrL5 := hrL.below hb5'
          have hb5 := hb4.trans (hb5'.mono hb4.size)
          clear hrX hrL hb4 hb5'
          go_wp2_with fail
          refine (dropVersions_impl _ _ c2 X by_ _ hrX5).mono ?_; rintro e w6 ⟨v6, rfl, ho6, hw6, hb6'⟩
          rw [HP2.out] at ho6 hw6
          obtain ⟨a6, c6, rfl, hr6, -, -, -⟩ := rowV_of_owns ho6 (by omega) hw6
          have hrL6 := hrL5.below hb6'
          have hb6 := hb5.trans (hb6'.mono hb5.size)
          clear hrX5 hrL5 hb5 hb6' ho6
          go_wp2_with fail
          refine (dropVersions_impl _ n c L by_ _ hrL6).mono ?_; rintro e w7 ⟨v7, rfl, ho7, hw7, hb7'⟩
          rw [HD.out] at ho7 hw7
          obtain ⟨a7, c7, rfl, hr7, -, -, -⟩ := rowV_of_owns ho7 (by omega) hw7
          have hr67 := hr6.below hb7'
          have hb7 := hb6.trans (hb7'.mono hb6.size)
          clear hrL6 hb6 hb7' ho7 hr6
          go_wp2_with fail
          refine (sameVersions_same _ _ _ c6 c7 D _ hr67 hr7).mono ?_; rintro e w8 ⟨rfl, hd8⟩
          go_wp2
          go_ret
          exact ⟨rfl, hb7.trans ((hd8.below _).mono hb7.size)⟩
  · have hs' : (1048576 : Int) < (len : Int) := by omega
    clear h hlc
    go_enter Try.func9, Try.ntmps9
    go_wp2
    go_ret
    exact ⟨rfl, Below.refl _ _⟩
end Go.Proofs.Ytaaffpolmecicaa

/- The walk of the exact law of PutValue: what it gives owns its memory. -/
import Derived.Test.YtmblmmbcdmmpcaaSpecStore
import Derived.Test.YtmblmmbcdmmpcaaImplChanged
import Derived.Test.YtmblmmbcdmmpcaaConvE
namespace Go.Proofs.Ytmblmmbcdmmpcaa
open Go.RowKit
set_option linter.unusedVariables false
set_option maxHeartbeats 4000000 in
theorem lawExactPutValue (a : Option Addr) (n cap : Nat) (l : List Ent) (key val : Int) (w : World) (h : RowE w a n l) (hc : a = none → cap = 0) (hlc : n ≤ cap) (hk : (Lit.int .i64 key).wf = true) (hv : (Lit.int .i64 val).wf = true) :
    Calls Try.prog 11 #[.slice a n cap, .int .i64 key, .int .i64 val] w (LawTrue w) := by
  have hm := h.2.1
  go_enter Try.func11, Try.ntmps11
  go_wp2_with fail
  refine (szEntryS_any a n cap 1048576 _ (by omega) (by omega) hm).mono ?_; rintro e w' ⟨rfl, rfl⟩
  by_cases hs : (n : Int) ≤ 1048576
  · rw [if_pos hs]
    have hsz : n ≤ 1048576 := by omega
    obtain rfl := h.1
    have hnn : (decide ((1048576 : Int) - (l.length : Int) < 0)) = false := by simp; omega
    go_wp2_with fail
    refine (toEntryS_any a _ cap l _ h hsz).mono ?_; rintro e w1 ⟨v1, rfl, ho1, hw1, hb1⟩
    obtain ⟨g1, c1, rfl, -, hr1⟩ := rowE_of_own ho1 (by omega) hw1
    clear ho1
    have HPL := Lib.hid (putM_len l key val)
    go_wp2_with fail
    refine (putValue_spec _ _ c1 l key val _ hr1 (by omega) (fun h => by cases h) hk hv).mono ?_; rintro e w2 ⟨vw, rfl, how, hww, hb2'⟩
    have hb2 := hb1.trans (hb2'.mono hb1.size)
    have hpl : (putM l key val).1.length ≤ 4000000 := by have := HPL.out; omega
    obtain ⟨gw, cw, rfl, hgw0, hrw⟩ := rowE_of_own how hpl hww
    have hgw : gw < w2.heap.size := by obtain ⟨g, c, he, _, h3⟩ := how.slice; simp at he; obtain ⟨rfl, _⟩ := he; exact h3
    clear how hb2' hr1
    go_wp2_with fail
    refine (toEntryS_any a _ cap l _ (h.below hb2) hsz).mono ?_; rintro e w3 ⟨vx, rfl, hox, hwx, hb3'⟩
    have hb3 := hb2.trans (hb3'.mono hb2.size)
    have hrw3 := hrw.below hb3'
    obtain ⟨gx, cx, rfl, hgx, hrx⟩ := rowE_of_own hox (by omega) hwx
    have hgx3 : gx < w3.heap.size := by obtain ⟨g, c, he, _, h3⟩ := hox.slice; simp at he; obtain ⟨rfl, _⟩ := he; exact h3
    have hwx2 : gw ≠ gx := by omega
    clear hb3' hrw
    go_wp2_with fail
    refine (putValue_impl _ _ cx l key val _ hrx).mono ?_; rintro e w4 ⟨vg, rfl, hog, hwg, hb4'⟩
    have hb4 := hb3.trans (hb4'.mono hb3.size)
    have hrw4 := hrw3.below hb4'
    have hox4 := hox.below hb4'
    have hrx4 := hrx.below hb4'
    have hgxg : some gx ≠ vg.ownBlock := owns_lt hog hgx3
    have hgwg : some gw ≠ vg.ownBlock := owns_lt hog (by omega)
    have hogx := hog
    obtain ⟨gg, cg, rfl, hrg, -⟩ := rowE_of_owns hog hpl hwg
    clear hogx
    clear hb4' hrw3 hox hrx
    obtain ⟨P, hP⟩ : ∃ P, P = (putM l key val).1 := ⟨_, rfl⟩
    obtain ⟨pb, hpb⟩ : ∃ pb, pb = (putM l key val).2 := ⟨_, rfl⟩
    have HP := Lib.hid hP
    have HPB := Lib.hid hpb
    rw [← hP] at hog hrw4 hrg hww hwg hpl hgxg hgwg ⊢
    rw [← hpb]
    clear hP hpb
    have hpp : (pb != pb) = false := by simp
    go_wp2_with fail
    refine (eqEntryS_same _ _ _ cg cw P _ hrg hrw4).mono ?_; rintro e w5 ⟨rfl, hb5'⟩
    have hb5 := hb4.trans (hb5'.mono hb4.size)
    have hrw5 := hrw4.below hb5'
    have hox5 := hox4.below hb5'
    have hrx5 := hrx4.below hb5'
    have hrg5 := hrg.below hb5'
    have hog5 := owns_below hog hb5'
    clear hrw4 hox4 hrx4 hrg hog hb5'
    go_wp2_with fail
    refine (toEntryS_any a _ cap l _ (h.below hb5) hsz).mono ?_; rintro e w6 ⟨v6, rfl, ho6, hw6, hb6'⟩
    have hb6 := hb5.trans (hb6'.mono hb5.size)
    obtain ⟨g6, c6, rfl, -, hr6⟩ := rowE_of_own ho6 (by omega) hw6
    clear ho6
    go_wp2_with fail
    refine (eqEntryS_same _ _ _ cx c6 l _ (hrx5.below hb6') hr6).mono ?_; rintro e w7 ⟨rfl, hb7'⟩
    have hb7 := hb6.trans (hb7'.mono hb6.size)
    have hrw7 := (hrw5.below hb6').below hb7'
    have hox7 := (hox5.below hb6').below hb7'
    have hog7 := owns_below (owns_below hog5 hb6') hb7'
    clear hrw5 hox5 hrx5 hrg5 hog5 hb6' hb7' hr6
    go_wp2_with fail
    refine (markEntryS_any _ gx _ cx l 1 _ hox7 rfl (by omega) (by omega) (by omega)).mono ?_; rintro e w8 ⟨rfl, -, hg8⟩
    have hb8 : Below w.heap.size w w8 := hb7.grown hg8 hb7.size (fun k hk => by simp at hk; have := hb2.size; omega)
    have hrw8 := hrw7.grown hg8 (by simpa using hwx2)
    have hog8 := owns_grown hog7 hg8 (fun k hk => by simp at hk; omega)
    have hrg8 := rowE_owned hog8 rfl hpl hwg
    clear hrw7 hog7 hg8 hox7
    have hk8 : decide ((1 : Int) + 2 * (l.length : Int) < 0) = false := by simp; omega
    go_wp2_with fail
    refine (eqEntryS_same _ _ _ cg cw P _ hrg8 hrw8).mono ?_; rintro e w9 ⟨rfl, hb9'⟩
    have hb9 := hb8.trans (hb9'.mono hb8.size)
    have hrw9 := hrw8.below hb9'
    have hog9 := owns_below hog8 hb9'
    clear hrw8 hrg8 hog8 hb9'
    have hP4 : P.length ≤ 1048576 + 100 := by rw [HP.out]; have := HPL.out; omega
    go_wp2_with fail
    refine (markEntryS_own _ _ _ P 1 _ hog9 rfl (by omega) (by omega) (by omega)).mono ?_; rintro e w10 ⟨rfl, hom, hg10⟩
    have hb10 : Below w.heap.size w w10 := hb9.grown hg10 hb9.size (fun k hk => by have := (hog9.lt k hk).1; have := hb3.size; omega)
    have hrw10 := hrw9.grown hg10 hgwg
    clear hrw9 hog9 hg10
    have hrm : RowE w10 gg P.length (marksE 1 P.length) := rowE_marked hom (by omega)
    have hq0 : decide ((1 : Int) + 2 * (P.length : Int) < 0) = false := by simp; omega
    have hqm : ((1 : Int) + 2 * (P.length : Int) != 1 + 2 * (P.length : Int)) = false := by simp
    go_wp2_with fail
    refine (heldEntryS_any _ _ cg 1 _ hrm (by omega) (by omega) (by omega)).mono ?_; rintro e w' ⟨rfl, rfl⟩
    go_wp2_with fail
    refine (toEntryS_any a _ cap l _ (h.below hb10) hsz).mono ?_; rintro e w11 ⟨v11, rfl, ho11, hw11, hb11'⟩
    have hb11 := hb10.trans (hb11'.mono hb10.size)
    obtain ⟨g11, c11, rfl, -, hr11⟩ := rowE_of_own ho11 (by omega) hw11
    clear ho11
    go_wp2_with fail
    refine (putValue_impl _ _ c11 l key val _ hr11).mono ?_; rintro e w12 ⟨vh, rfl, hoh, hwh, hb12'⟩
    have hb12 := hb11.trans (hb12'.mono hb11.size)
    rw [← HP.out] at hoh hwh
    rw [← HPB.out]
    obtain ⟨gh, ch, rfl, hrh, -⟩ := rowE_of_owns hoh hpl hwh
    have hrw12 := (hrw10.below hb11').below hb12'
    have hrm12 := (hrm.below hb11').below hb12'
    clear hrw10 hrm hom hoh hb11' hb12' hr11
    go_wp2_with fail
    refine (eqEntryS_same _ _ _ ch cw P _ hrh hrw12).mono ?_; rintro e w13 ⟨rfl, hb13'⟩
    have hb13 := hb12.trans (hb13'.mono hb12.size)
    have hrm13 := hrm12.below hb13'
    clear hrm12 hrw12 hrh hb13'
    go_wp2_with fail
    refine (heldEntryS_any _ _ cg 1 _ hrm13 (by omega) (by omega) (by omega)).mono ?_; rintro e w' ⟨rfl, rfl⟩
    go_wp2
    go_ret
    exact ⟨rfl, hb13⟩
  · rw [if_neg hs]
    go_wp2
    go_ret
    exact ⟨rfl, Below.refl _ _⟩
end Go.Proofs.Ytmblmmbcdmmpcaa

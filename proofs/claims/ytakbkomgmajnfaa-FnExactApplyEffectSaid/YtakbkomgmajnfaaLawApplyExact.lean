/- The walk of the exact law of ApplyEffect. -/
import Derived.Test.YtakbkomgmajnfaaEffHold
import Derived.Test.YtakbkomgmajnfaaToEff
import Derived.Test.YtakbkomgmajnfaaConvEff
import Derived.Test.YtakbkomgmajnfaaLawApply
import Derived.Test.YtakbkomgmajnfaaLawEffExact
import Derived.Deep.DeepCutAuto
namespace Go.Proofs.Ytakbkomgmajnfaa
open Go.RowKit
set_option linter.unusedVariables false
/-- A new store. -/
def CutE (w0 : World) (P : List Ent) (s : Value) (wx : World) : Prop :=
  ∃ g c, s = .slice (some ⟨g, 0, none⟩) P.length c ∧ RowE wx (some ⟨g, 0, none⟩) P.length P ∧ g < wx.heap.size ∧ Below w0.heap.size w0 wx
/-- A new store, or nil. -/
def CutN (w0 : World) (P : List Ent) (s : Value) (wx : World) : Prop :=
  ∃ a c, s = .slice a P.length c ∧ RowE wx a P.length P ∧ Below w0.heap.size w0 wx
set_option warningAsError false in
set_option maxRecDepth 100000 in
set_option maxHeartbeats 8000000 in
theorem lawExactApplyEffect (a : Option Addr) (n cap : Nat) (S : List Ent) (dn : Bool) (b : Option Addr) (n1 c1 : Nat) (d : Option Addr) (n2 c2 : Nat) (R W : List Ent) (w : World) (h : RowE w a n S) (hc : a = none → cap = 0) (hlc : n ≤ cap)
    (h' : RowF w b n1 d n2 ⟨dn, R, W⟩ ∧ (b = none → c1 = 0) ∧ n1 ≤ c1 ∧ (d = none → c2 = 0) ∧ n2 ≤ c2) :
    Calls Try.prog 10 #[.slice a n cap, .agg #[.bool dn, .slice b n1 c1, .slice d n2 c2]] w (LawTrue w) := by
  obtain ⟨x, rfl, rfl, rfl⟩ : ∃ x : Eff, x.done = dn ∧ x.rds = R ∧ x.wrs = W := ⟨⟨dn, R, W⟩, rfl, rfl, rfl⟩
  have hf : RowF w b n1 d n2 x := h'.1
  clear h' hc hlc
  have hm := h.2.1
  have hm1 := hf.1.2.1
  have hm2 := hf.2.2.1
  have hbl := (Below.refl w.heap.size w).alloc (Nat.le_refl _) (.cells #[.bool x.done, .slice b n1 c1, .slice d n2 c2] 67)
  have HS := Lib.hid (h.below hbl)
  have HF := Lib.hid (hf.below hbl)
  have HA := Lib.hid (eAt_new w 67 x.done (.slice b n1 c1) (.slice d n2 c2))
  have HBL := Lib.hid hbl
  clear h hf hbl
  go_enter Try.func10, Try.ntmps10
  go_wp2_with fail
  obtain ⟨w0, hw0⟩ : ∃ w0, w0 = w.alloc (.cells #[.bool x.done, .slice b n1 c1, .slice d n2 c2] 67) := ⟨_, rfl⟩
  rw [← hw0] at HS HF HA HBL ⊢
  clear hw0
  obtain ⟨A, hAe⟩ : ∃ A, A = w.heap.size := ⟨_, rfl⟩
  rw [← hAe] at HA ⊢
  clear hAe
  refine (szEntryS_any a n cap 1048576 _ (by omega) (by omega) hm).mono ?_; rintro e w' ⟨rfl, rfl⟩
  by_cases hs : (n : Int) ≤ 1048576
  · rw [if_pos hs]
    have hnn0 : decide ((1048576 : Int) - (n : Int) < 0) = false := by simp; omega
    have hse : n ≤ 1048576 := by omega
    obtain ⟨a0, a1, a2⟩ := HA.out.1
    go_wp2_with fail
    refine (szEffect_any x.done b n1 c1 d n2 c2 (1048576 - n) _ (by omega) (by omega) hm1 hm2).mono ?_; rintro e w1 ⟨rfl, hb1'⟩
    have hb1 := HBL.out.trans (hb1'.mono HBL.out.size)
    have HS1 := Lib.hid (HS.out.below hb1')
    have HF1 := Lib.hid (HF.out.below hb1')
    have HA1 := Lib.hid (HA.out.below hb1')
    clear HBL HS HF HA hb1' a0 a1 a2
    by_cases hs2 : ((n1 : Int) + n2) ≤ 1048576 - n
    · rw [if_pos hs2]
      have hnn1 : decide ((1048576 : Int) - (n : Int) - (n1 : Int) - (n2 : Int) < 0) = false := by simp; omega
      have hn1 : n1 ≤ 1048576 := by omega
      have hn2 : n2 ≤ 1048576 := by omega
      clear hs hs2 hm hm1 hm2
      obtain rfl := HF1.out.1.1
      obtain rfl := HF1.out.2.1
      obtain rfl := HS1.out.1
      have hPL := applyM_len S x.wrs
      obtain ⟨P, hP⟩ : ∃ P, P = applyM S x.wrs := ⟨_, rfl⟩
      have HP := Lib.hid hP
      rw [← hP] at hPL
      clear hP
      have hr4 : x.rds.length ≤ 4000000 := by omega
      have hw4 : x.wrs.length ≤ 4000000 := by omega
      have hS4 : S.length ≤ 4000000 := by omega
      have hP4 : P.length ≤ 4000000 := by omega
      go_upto_region 8 with (fail)
      go_cut [6] (fun s6 wx => CutE w1 P s6 wx)
      case first =>
        have hAl := HA1.out.2.2
        obtain ⟨a0, a1, a2⟩ := HA1.out.1
        go_region_held3 (fun w' => w'.cell? ⟨A, 0, none⟩ = some (.bool x.done) ∧ w'.cell? ⟨A, 1, none⟩ = some (.slice b x.rds.length c1) ∧ w'.cell? ⟨A, 2, none⟩ = some (.slice d x.wrs.length c2)) (first | exact ⟨a0, a1, a2⟩ | exact ⟨d0, d1, d2⟩ | exact ⟨e0, e1, e2⟩ | exact ⟨f0, f1, f2⟩ | go_keep)
          (first | (go_at_call 43; refine (toEntryS_any a _ cap S _ (by exact HS1.out) hse).mono ?_; rintro e w2 ⟨v2, rfl, ho2, hwf2, hb2'⟩; obtain ⟨g2, cp2, rfl, -, hr2⟩ := rowE_of_own ho2 hS4 hwf2; have HB2 : Below w1.heap.size w1 w2 := (by first | exact hb2' | exact (Below.refl _ w1).drew.trans hb2' | exact (Below.refl _ w1).drew.drew.trans hb2'); have d0 := below_cl HB2 hAl a0; have d1 := below_cl HB2 hAl a1; have d2 := below_cl HB2 hAl a2; have hF2 := HF1.out.below HB2) | (go_at_call 51; refine (toEffect_x x _ _ _ _ _ _ _ (by exact hF2) hn1 hn2).mono ?_; rintro e w3 ⟨v3, rfl, ho3, hb3'⟩; obtain ⟨a3, c3, b3, e3, rfl, hf3, -⟩ := ho3.rows hr4 hw4; have hb23 : Below w2.heap.size w2 w3 := (by first | exact hb3' | exact (Below.refl _ w2).drew.trans hb3' | exact (Below.refl _ w2).drew.drew.trans hb3'); have HB3 := HB2.trans (hb23.mono HB2.size); have hr3 := hr2.below hb23; have e0 := below_cl HB3 hAl a0; have e1 := below_cl HB3 hAl a1; have e2 := below_cl HB3 hAl a2) | (go_at_call 34; refine (applyEffect_spec _ _ cp2 S _ _ _ _ _ _ _ x.wrs _ (by exact hr3) (by exact hf3.2) (fun h => by cases h)).mono ?_; rintro e w4 ⟨v4, rfl, ho4, hwf4, hb4'⟩; rw [← HP.out] at ho4 hwf4; have hb34 : Below w3.heap.size w3 w4 := (by first | exact hb4' | exact (Below.refl _ w3).drew.trans hb4' | exact (Below.refl _ w3).drew.drew.trans hb4'); have HB4 := HB3.trans (hb34.mono HB3.size); obtain ⟨gw, cw, rfl, -, hrw⟩ := rowE_of_own ho4 hP4 hwf4; have hgwl := (ho4.1.lt gw rfl).2; have f0 := below_cl HB4 hAl a0; have f1 := below_cl HB4 hAl a1; have f2 := below_cl HB4 hAl a2))
        all_goals
          go_wp2_with fail
          go_meet
          exact ⟨gw, cw, rfl, hrw, hgwl, HB4⟩
      case rest =>
        obtain ⟨gw, cw, rfl, hrw2, hgw, hb2'⟩ := hcut
        obtain ⟨w2, hw2⟩ : ∃ w2, w2 = wc := ⟨_, rfl⟩
        subst hw2
        have hb2 := hb1.trans (hb2'.mono hb1.size)
        have HS2 := Lib.hid (HS1.out.below hb2')
        have HF2 := Lib.hid (HF1.out.below hb2')
        have HA2 := Lib.hid (HA1.out.below hb2')
        clear HS1 HF1 HA1 hb2'
        go_wp2_with fail
        refine (toEntryS_any a _ cap S _ HS2.out hse).mono ?_; rintro e w3 ⟨vx, rfl, hox3, hwx, hb3'⟩
        have hb3 := hb3'
        have hrw3 := hrw2.below hb3'
        obtain ⟨gx, cx, rfl, hgx, hrx3⟩ := rowE_of_own hox3 hS4 hwx
        have hgx3 : gx < w3.heap.size := (hox3.1.lt gx rfl).2
        clear hb3' hrw2
        obtain ⟨a0, a1, a2⟩ := (HA2.out.below hb3).1
        go_wp2_with fail
        refine (toEffect_x x _ _ _ _ _ _ _ (HF2.out.below hb3) hn1 hn2).mono ?_; rintro e w4 ⟨vy, rfl, hoy, hb4'⟩
        obtain ⟨aY, cY, bY, eY, rfl, hY4, -⟩ := row2_rows hoy hr4 hw4
        have hb4 := hb3.trans (hb4'.mono hb3.size)
        have hbl := (Below.refl w4.heap.size w4).alloc (Nat.le_refl _) (.cells #[.bool x.done, .slice aY x.rds.length cY, .slice bY x.wrs.length eY] 39)
        have hb45 := hb4'.trans (hbl.mono hb4'.size)
        have hN5 := eAt_new w4 39 x.done (.slice aY x.rds.length cY) (.slice bY x.wrs.length eY)
        have hs4 := hb4'.size
        have hb5 := hb4.trans (hbl.mono hb4.size)
        have hrw5 := hrw3.below hb45
        have hox5 := hox3.below hb45
        have hrx5 := hrx3.below hb45
        have hY5 := hY4.below hbl
        clear hb4' hrw3 hox3 hrx3 hY4 hbl hb45 hoy a0 a1 a2
        go_upto_region 11 with (fail)
        obtain ⟨w5, hw5⟩ : ∃ w5, w5 = w4.alloc (.cells #[.bool x.done, .slice aY x.rds.length cY, .slice bY x.wrs.length eY] 39) := ⟨_, rfl⟩
        rw [← hw5] at hN5 hb5 hrw5 hox5 hrx5 hY5 ⊢
        clear hw5
        obtain ⟨X, hXe⟩ : ∃ X, X = w4.heap.size := ⟨_, rfl⟩
        have hXg : w3.heap.size ≤ X := by omega
        rw [← hXe] at hN5 hY5 ⊢
        clear hXe
        obtain ⟨f0, f1, f2⟩ := hN5.1
        go_wp2_with fail
        refine (applyEffect_impl _ _ cx S _ _ _ _ _ _ _ x.wrs _ hrx5 hY5.row.2).mono ?_; rintro e w6 ⟨vg, rfl, hog, hwg, hb6'⟩
        rw [← HP.out] at hog hwg
        obtain ⟨gg, cg, rfl, hrg6, -⟩ := rowE_of_owns hog hP4 hwg
        have hXl5 := hN5.2.2
        have hb6 := hb5.trans (hb6'.mono hb5.size)
        have hrw6 := hrw5.below hb6'
        have hox6 := hox5.below hb6'
        have hY6 := hY5.below hb6'
        have hN6 := hN5.below hb6'
        clear hrw5 hox5 hrx5 hY5 hN5 hb6' f0 f1 f2
        go_wp2_with fail
        refine (eqEntryS_same _ _ _ cg cw P _ hrg6 hrw6).mono ?_; rintro e w7 ⟨rfl, hb7'⟩
        have hb7 := hb6.trans (hb7'.mono hb6.size)
        have hrw7 := hrw6.below hb7'
        have hox7 := hox6.below hb7'
        have hY7 := hY6.below hb7'
        have hN7 := hN6.below hb7'
        have hog7 := owns_below hog hb7'
        clear hrw6 hox6 hY6 hN6 hrg6 hog hb7'
        go_wp2_with fail
        refine (toEntryS_any a _ cap S _ (HS2.out.below hb7) hse).mono ?_; rintro e w8 ⟨v8, rfl, ho8, hwf8, hb8'⟩
        obtain ⟨g8, c8, rfl, -, hr8⟩ := rowE_of_own ho8 hS4 hwf8
        have hrx8 : RowE w8 (some ⟨gx, 0, none⟩) S.length S := rowE_owned (owns_below hox7.1 hb8') rfl hS4 hwx
        have hb8 := hb7.trans (hb8'.mono hb7.size)
        clear ho8
        go_wp2_with fail
        refine (eqEntryS_same _ _ _ cx c8 S _ hrx8 hr8).mono ?_; rintro e w9 ⟨rfl, hb9'⟩
        have hb79 := hb8'.trans (hb9'.mono hb8'.size)
        have hb9 := hb8.trans (hb9'.mono hb8.size)
        have hrw9 := hrw7.below hb79
        have hox9 := hox7.below hb79
        have hY9 := hY7.below hb79
        have hN9 := hN7.below hb79
        have hog9 := owns_below hog7 hb79
        clear hrw7 hox7 hY7 hN7 hog7 hrx8 hr8 hb8' hb9' hb79
        have hAl := (HA2.out.below hb9).2.2
        have hXl := hN9.2.2
        obtain ⟨a0, a1, a2⟩ := (HA2.out.below hb9).1
        obtain ⟨f0, f1, f2⟩ := hN9.1
        go_upto_region 16 with (fail)
        go_cut [49] (fun s49 wx => s49 = .bool false ∧ Below w9.heap.size w9 wx)
        case first =>
          have hAl := (HA2.out.below hb9).2.2
          have hXl := hN9.2.2
          have HF9 := Lib.hid (HF2.out.below hb9)
          have HY9 := Lib.hid hY9.row
          obtain ⟨a0, a1, a2⟩ := (HA2.out.below hb9).1
          obtain ⟨f0, f1, f2⟩ := hN9.1
          go_region_held3 (fun w' => (w'.cell? ⟨A, 0, none⟩ = some (.bool x.done) ∧ w'.cell? ⟨A, 1, none⟩ = some (.slice b x.rds.length c1) ∧ w'.cell? ⟨A, 2, none⟩ = some (.slice d x.wrs.length c2)) ∧ w'.cell? ⟨X, 0, none⟩ = some (.bool x.done) ∧ w'.cell? ⟨X, 1, none⟩ = some (.slice aY x.rds.length cY) ∧ w'.cell? ⟨X, 2, none⟩ = some (.slice bY x.wrs.length eY)) (first | exact ⟨⟨a0, a1, a2⟩, f0, f1, f2⟩ | exact ⟨⟨d0, d1, d2⟩, y0, y1, y2⟩ | exact ⟨⟨g0, g1, g2⟩, z0, z1, z2⟩ | go_keep)
            (first | (go_at_call 51; refine (toEffect_x x _ _ _ _ _ _ _ (by exact HF9.out) hn1 hn2).mono ?_; rintro e w10 ⟨v10, rfl, ho10, hb10'⟩; obtain ⟨a7, c7, b7, e7, rfl, hf7, -⟩ := ho10.rows hr4 hw4; have HB7 : Below w9.heap.size w9 w10 := (by first | exact hb10' | exact (Below.refl _ w9).drew.trans hb10' | exact (Below.refl _ w9).drew.drew.trans hb10'); have hf6' := HY9.out.below HB7; have d0 := below_cl HB7 hAl a0; have d1 := below_cl HB7 hAl a1; have d2 := below_cl HB7 hAl a2; have y0 := below_cl HB7 hXl f0; have y1 := below_cl HB7 hXl f1; have y2 := below_cl HB7 hXl f2) | (go_at_call 45; refine (eqEffect_same _ _ _ _ _ _ _ _ _ _ x _ (by exact hf6') (by exact hf7)).mono ?_; rintro e w8' ⟨rfl, hb11'⟩; have HB8 : Below w9.heap.size w9 w8' := (by first | exact HB7.trans (hb11'.mono HB7.size) | exact HB7.trans (((Below.refl _ _).drew.trans hb11').mono HB7.size)); have g0 := below_cl HB8 hAl a0; have g1 := below_cl HB8 hAl a1; have g2 := below_cl HB8 hAl a2; have z0 := below_cl HB8 hXl f0; have z1 := below_cl HB8 hXl f1; have z2 := below_cl HB8 hXl f2))
          all_goals
            go_wp2_with fail
            go_meet
            exact ⟨rfl, HB8⟩
        case rest =>
          obtain ⟨rfl, hb10'⟩ := hcut
          obtain ⟨w10, hw10⟩ : ∃ w10, w10 = wc := ⟨_, rfl⟩
          subst hw10
          have hb10 := hb9.trans (hb10'.mono hb9.size)
          have hrw10 := hrw9.below hb10'
          have hox10 := hox9.below hb10'
          have hY10 := hY9.below hb10'
          have hN10 := hN9.below hb10'
          have hog10 := owns_below hog9 hb10'
          clear hrw9 hox9 hY9 hN9 hog9 hb10'
          go_wp2_with fail
          refine (markEntryS_any _ gx _ cx S 1 _ hox10 rfl (by omega) (by omega) (by omega)).mono ?_; rintro e w11 ⟨rfl, -, hg11⟩
          have hb11 : Below w2.heap.size w2 w11 := hb10.grown hg11 hb10.size (fun k hk => by simp at hk; omega)
          have hrw11 := hrw10.grown hg11 (by simp; omega)
          have hN11 := hN10.grown hg11 (by simp; omega)
          have hY11 := hY10.grown1 hg11 (.inl (by omega))
          have hog11 := owns_grown hog10 hg11 (fun k hk => by simp at hk; omega)
          clear hrw10 hox10 hY10 hN10 hog10 hg11
          obtain ⟨f0, f1, f2⟩ := hN11.1
          have hs11 : w3.heap.size ≤ w11.heap.size := by have := hN11.2.2; omega
          go_wp2_with fail
          refine (markEffect_row _ _ _ _ _ _ x (1 + 2 * (S.length : Int)) _ hY11 (by omega) (by omega) (by omega) (by omega) hs11).mono ?_; rintro e w12 ⟨rfl, -, -, ht12, hbB⟩
          have hb12 : Below w2.heap.size w2 w12 := hb11.trans (hbB.mono hb3.size)
          have hrw12 := ht12.row hrw11 (fun p o e h => by simp at e; have := (hY11.o1.lt _ h).1; omega) (fun p o e h => by simp at e; have := (hY11.o2.lt _ h).1; omega)
          have hog12 : w12.ownsRow w5.heap.size 32 2 (.slice gg P.length cg) P.length (flatE P) := owns_keep hog11 (fun p hp => by rw [owns_blk hog11] at hp; have h1 := hog11.lt p hp; exact ht12.2 p h1.2 (fun e => by have := hY11.t1 p e; omega) (fun e => by have := hY11.t2 p e; omega))
          have hrg12 := rowE_owned hog12 rfl hP4 hwg
          clear hrw11 hN11 hY11 hog11 ht12 hbB f0 f1 f2
          have hk12 : decide ((1 : Int) + 2 * (S.length : Int) + 2 * (x.rds.length : Int) + 2 * (x.wrs.length : Int) < 0) = false := by simp; omega
          go_wp2_with fail
          refine (eqEntryS_same _ _ _ cg cw P _ hrg12 hrw12).mono ?_; rintro e w13 ⟨rfl, hb13'⟩
          have hb13 := hb12.trans (hb13'.mono hb12.size)
          have hrw13 := hrw12.below hb13'
          have hog13 := owns_below hog12 hb13'
          have hgwg : some gw ≠ (Value.slice gg P.length cg).ownBlock := owns_lt hog13 (by omega)
          clear hrw12 hog12 hrg12 hb13'
          go_wp2_with fail
          refine (markEntryS_own _ _ _ P 1 _ hog13 rfl (by omega) (by omega) (by omega)).mono ?_; rintro e w14 ⟨rfl, hom, hg14⟩
          have hb14 : Below w2.heap.size w2 w14 := hb13.grown hg14 hb13.size (fun k hk => by have := (hog13.lt k hk).1; have := hb5.size; omega)
          have hrw14 := hrw13.grown hg14 hgwg
          clear hrw13 hog13 hg14
          have hrm : RowE w14 gg P.length (marksE 1 P.length) := rowE_marked hom hP4
          have hq0 : decide ((1 : Int) + 2 * (P.length : Int) < 0) = false := by simp; omega
          have hqm : ((1 : Int) + 2 * (P.length : Int) != 1 + 2 * (P.length : Int)) = false := by simp
          go_wp2_with fail
          refine (heldEntryS_any _ _ cg 1 _ hrm (by omega) (by omega) (by omega)).mono ?_; rintro e w' ⟨rfl, rfl⟩
          have HS14 := Lib.hid (HS2.out.below hb14)
          have HF14 := Lib.hid (HF2.out.below hb14)
          have HA14 := Lib.hid (HA2.out.below hb14)
          go_upto_region 31 with (fail)
          go_cut [13] (fun s13 wx => CutN w14 P s13 wx)
          case first =>
            have hAl := HA14.out.2.2
            obtain ⟨a0, a1, a2⟩ := HA14.out.1
            go_region_held3 (fun w' => w'.cell? ⟨A, 0, none⟩ = some (.bool x.done) ∧ w'.cell? ⟨A, 1, none⟩ = some (.slice b x.rds.length c1) ∧ w'.cell? ⟨A, 2, none⟩ = some (.slice d x.wrs.length c2)) (first | exact ⟨a0, a1, a2⟩ | exact ⟨d0, d1, d2⟩ | exact ⟨e0, e1, e2⟩ | exact ⟨f0, f1, f2⟩ | go_keep)
              (first | (go_at_call 43; refine (toEntryS_any a _ cap S _ (by exact HS14.out) hse).mono ?_; rintro e w2 ⟨v2, rfl, ho2, hwf2, hb2'⟩; obtain ⟨g2, cp2, rfl, -, hr2⟩ := rowE_of_own ho2 hS4 hwf2; have HB2 : Below w14.heap.size w14 w2 := (by first | exact hb2' | exact (Below.refl _ w14).drew.trans hb2' | exact (Below.refl _ w14).drew.drew.trans hb2'); have d0 := below_cl HB2 hAl a0; have d1 := below_cl HB2 hAl a1; have d2 := below_cl HB2 hAl a2; have hF2 := HF14.out.below HB2) | (go_at_call 51; refine (toEffect_x x _ _ _ _ _ _ _ (by exact hF2) hn1 hn2).mono ?_; rintro e w3 ⟨v3, rfl, ho3, hb3'⟩; obtain ⟨a3, c3, b3, e3, rfl, hf3, -⟩ := ho3.rows hr4 hw4; have hb23 : Below w2.heap.size w2 w3 := (by first | exact hb3' | exact (Below.refl _ w2).drew.trans hb3' | exact (Below.refl _ w2).drew.drew.trans hb3'); have HB3 := HB2.trans (hb23.mono HB2.size); have hr3 := hr2.below hb23; have e0 := below_cl HB3 hAl a0; have e1 := below_cl HB3 hAl a1; have e2 := below_cl HB3 hAl a2) | (go_at_call 28; refine (applyEffect_impl _ _ cp2 S _ _ _ _ _ _ _ x.wrs _ (by exact hr3) (by exact hf3.2)).mono ?_; rintro e w4 ⟨v4, rfl, ho4, hwf4, hb4'⟩; rw [← HP.out] at ho4 hwf4; have hb34 : Below w3.heap.size w3 w4 := (by first | exact hb4' | exact (Below.refl _ w3).drew.trans hb4' | exact (Below.refl _ w3).drew.drew.trans hb4'); have HB4 := HB3.trans (hb34.mono HB3.size); obtain ⟨gh, ch, rfl, hrw, -⟩ := rowE_of_owns ho4 hP4 hwf4; have f0 := below_cl HB4 hAl a0; have f1 := below_cl HB4 hAl a1; have f2 := below_cl HB4 hAl a2))
            all_goals
              go_wp2_with fail
              go_meet
              exact ⟨gh, ch, rfl, hrw, HB4⟩
          case rest =>
            obtain ⟨ah, ch, rfl, hrh15, hb15'⟩ := hcut
            have hb15 := hb14.trans (hb15'.mono hb14.size)
            have hrw15 := hrw14.below hb15'
            have hrm15 := hrm.below hb15'
            clear hrw14 hrm hom hb15' HS14 HF14 HA14
            go_wp2_with fail
            refine (eqEntryS_same _ _ _ ch cw P _ hrh15 hrw15).mono ?_; rintro e w16 ⟨rfl, hb16'⟩
            have hb16 := hb15.trans (hb16'.mono hb15.size)
            have hrm16 := hrm15.below hb16'
            clear hrm15 hrw15 hrh15 hb16'
            go_wp2_with fail
            refine (heldEntryS_any _ _ cg 1 _ hrm16 (by omega) (by omega) (by omega)).mono ?_; rintro e w' ⟨rfl, rfl⟩
            go_wp2
            go_ret
            exact ⟨rfl, hb2.trans (hb16.mono hb2.size)⟩
    · rw [if_neg hs2]
      go_wp2
      go_ret
      exact ⟨rfl, hb1⟩
  · rw [if_neg hs]
    go_wp2
    go_ret
    exact ⟨rfl, HBL.out⟩
end Go.Proofs.Ytakbkomgmajnfaa

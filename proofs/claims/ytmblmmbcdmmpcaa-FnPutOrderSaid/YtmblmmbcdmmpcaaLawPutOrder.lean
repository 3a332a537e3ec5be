/- The walk of the law FnPutOrder. -/
import Derived.Test.YtmblmmbcdmmpcaaLawPut
namespace Go.Proofs.Ytmblmmbcdmmpcaa
open Go.RowKit
set_option linter.unusedVariables false
theorem RowB.below {w w' : World} {a : Option Addr} {len : Nat} {z : List Int} (h : RowB w a len z) (hb : Below w.heap.size w w') : RowB w' a len z := by
  obtain ⟨q1, q2, q3, q4⟩ := h
  refine ⟨q1, q2, fun hl => ?_, q4⟩
  obtain ⟨b, off, he, hc⟩ := q3 hl
  refine ⟨b, off, he, fun i hi => ?_⟩
  have hlt : b < w.heap.size := World.block_lt_of_cell? w ⟨b, off + i, none⟩ (hc i hi)
  rw [hb.cell (p := ⟨b, off + i, none⟩) hlt]; exact hc i hi
set_option maxHeartbeats 4000000 in
theorem lawPutOrder (a : Option Addr) (len cap : Nat) (z : List Int) (a' : Option Addr) (len' cap' : Nat) (z' : List Int) (w : World) (h : RowB w a len z) (hc : a = none → cap = 0) (hlc : len ≤ cap) (h' : RowB w a' len' z') (hc' : a' = none → cap' = 0) (hlc' : len' ≤ cap') :
    Calls Try.prog 8 #[.slice a len cap, .slice a' len' cap'] w (LawTrue w) := by
  by_cases hs : len ≤ 1048576
  · by_cases hs2 : len' ≤ 1048576
    · have q1 : decide ((1048576 : Int) < (len : Int)) = false := by simp; omega
      have q2 : decide ((1048576 : Int) < (len' : Int)) = false := by simp; omega
      go_enter Try.func8, Try.ntmps8
      go_wp2_with fail
      refine (drawPutValue_any a len cap z w h hlc).mono ?_; rintro e w1 ⟨v, l, key, val, rfl, hown, hwf, hlen, hk0, hk1, hv0, hv1, hb1⟩
      obtain ⟨g, c, rfl, hg, hr⟩ := rowE_of_own hown (by omega) hwf
      have hz1 := h'.below hb1
      clear h hs hs2 q1 q2 hown hlc h'
      have hpl := putM_len l key val
      go_wp2_with fail
      refine (putValue_impl _ _ c l key val _ hr).mono ?_; rintro e w2 ⟨vx, rfl, hox, hwx, hb2'⟩
      obtain ⟨gx, cx, rfl, hrx, -⟩ := rowE_of_owns hox (by omega) hwx
      have hr2 := hr.below hb2'
      have hz2 := hz1.below hb2'
      have hb2 := hb1.trans (hb2'.mono hb1.size)
      clear hr hox hb2' hb1 hz1
      go_wp2_with fail
      refine (putValue_spec _ _ c l key val _ hr2 (by omega) (fun h => by cases h) (WalkArith.wf_i64 (by omega)) (WalkArith.wf_i64 (by omega))).mono ?_; rintro e w3 ⟨vy, rfl, hoy, hwy, hb3'⟩
      obtain ⟨gy, cy, rfl, -, hry⟩ := rowE_of_own hoy (by omega) hwy
      have hr3 := hr2.below hb3'
      have hrx3 := hrx.below hb3'
      have hz3 := hz2.below hb3'
      have hb3 := hb2.trans (hb3'.mono hb2.size)
      clear hr2 hrx hoy hb3' hb2 hz2
      go_wp2_with fail
      refine (sameStore_same _ _ _ cx cy _ _ hrx3 hry).mono ?_; rintro e w4 ⟨rfl, hd4⟩
      have hr4 := hr3.below (hd4.below _)
      have hrx4 := hrx3.below (hd4.below _)
      have hz4 := hz3.below (hd4.below _)
      have hb4 := hb3.trans (hd4.below _)
      clear hr3 hrx3 hry hd4 hb3 hwy hz3
      obtain ⟨X, hX⟩ : ∃ X, X = (putM l key val).1 := ⟨_, rfl⟩
      obtain ⟨pb, hpb⟩ : ∃ pb, pb = (putM l key val).2 := ⟨_, rfl⟩
      have HX := Lib.hid hX
      have HPB := Lib.hid hpb
      rw [← hX] at hrx4 hpl hwx ⊢
      rw [← hpb]
      clear hX hpb
      have hpp : (pb != pb) = false := by simp
      go_wp2_with fail
      refine (drawPutValue_any a' len' cap' z' _ hz4 hlc').mono ?_; rintro e w5 ⟨v5, l5, k2, v2, rfl, -, -, -, hp0, hp1, hq0, hq1, hb5'⟩
      have hr5 := hr4.below hb5'
      have hrx5 := hrx4.below hb5'
      have hb5 := hb4.trans (hb5'.mono hb4.size)
      clear hr4 hrx4 hz4 hb5' hb4
      have hpl2 := putM_len l k2 v2
      go_wp2_with fail
      refine (putValue_impl _ _ c l k2 v2 _ hr5).mono ?_; rintro e w6 ⟨vz, rfl, hoz, hwz, hb6'⟩
      obtain ⟨gz, cz, rfl, hrz, -⟩ := rowE_of_owns hoz (by omega) hwz
      have hrx6 := hrx5.below hb6'
      have hb6 := hb5.trans (hb6'.mono hb5.size)
      clear hr5 hrx5 hoz hb6' hb5
      obtain ⟨Y, hY⟩ : ∃ Y, Y = (putM l k2 v2).1 := ⟨_, rfl⟩
      obtain ⟨pc, hpc⟩ : ∃ pc, pc = (putM l k2 v2).2 := ⟨_, rfl⟩
      have HY := Lib.hid hY
      have HPC := Lib.hid hpc
      rw [← hY] at hrz hpl2 hwz ⊢
      rw [← hpc]
      clear hY hpc
      cases pb with
      | false =>
        go_wp2_with fail
        refine (alive_any _).mono ?_; rintro e w7 ⟨rfl, hb7⟩
        go_wp2
        go_ret
        exact ⟨rfl, hb6.trans (hb7.mono hb6.size)⟩
      | true =>
        cases pc with
        | false =>
          go_wp2_with fail
          refine (alive_any _).mono ?_; rintro e w7 ⟨rfl, hb7⟩
          go_wp2
          go_ret
          exact ⟨rfl, hb6.trans (hb7.mono hb6.size)⟩
        | true =>
          by_cases hkk : key = k2
          · have hkb : (key == k2) = true := by simpa using hkk
            clear hkk
            go_wp2_with fail
            refine (alive_any _).mono ?_; rintro e w7 ⟨rfl, hb7⟩
            go_wp2
            go_ret
            exact ⟨rfl, hb6.trans (hb7.mono hb6.size)⟩
          · have hkb : (key == k2) = false := by simpa using hkk
            have hfin : putM X k2 v2 = (putRaw k2 v2 X, true) ∧ putM Y key val = (putRaw k2 v2 X, true) ∧ (putRaw k2 v2 X).length ≤ 2000 := by
              have c1 := putM_cases l key val
              have c2 := putM_cases l k2 v2
              have e1 := HX.out; have e2 := HPB.out; have e3 := HY.out; have e4 := HPC.out
              rcases c1 with c | c | ⟨hsb, a0, a1, a2, a3, c⟩
              · rw [c] at e2; cases e2
              · rw [c] at e2; cases e2
              · rcases c2 with d | d | ⟨_, b0, b1, b2, b3, d⟩
                · rw [d] at e4; cases e4
                · rw [d] at e4; cases e4
                · rw [c] at e1
                  rw [d] at e3
                  simp only at e1 e3
                  have hok := (storeB_ok l).1 hsb
                  have hx := ok_put hok a0 a1 a2 a3
                  have hy := ok_put hok b0 b1 b2 b3
                  have hxx := ok_put hx b0 b1 b2 b3
                  have h32 := store_len ((storeB_ok _).2 hxx)
                  rw [e1, e3]
                  refine ⟨?_, ?_, by omega⟩
                  · rw [putM, if_pos ((storeB_ok _).2 hx), inB_yes b0 b1, inB_yes b2 b3]; rfl
                  · rw [putM, if_pos ((storeB_ok _).2 hy), inB_yes a0 a1, inB_yes a2 a3, put_order hok a0 a1 a2 a3 b0 b1 b2 b3 hkk]; rfl
            have HF := Lib.hid hfin
            clear hkk hfin
            go_wp2_with fail
            refine (putValue_impl _ _ cx X k2 v2 _ hrx6).mono ?_; rintro e w7 ⟨va, rfl, hoa, hwa, hb7'⟩
            rw [HF.out.1] at hoa hwa
            rw [HF.out.1]
            simp only at hoa hwa ⊢
            have h2000 := HF.out.2.2
            obtain ⟨Z, hZ⟩ : ∃ Z, Z = putRaw k2 v2 X := ⟨_, rfl⟩
            have HF2 := Lib.hid HF.out.2.1
            rw [← hZ] at hoa hwa h2000 HF2
            clear hZ
            obtain ⟨ga, ca, rfl, hra, -⟩ := rowE_of_owns hoa (by omega) hwa
            have hrz7 := hrz.below hb7'
            have hb7 := hb6.trans (hb7'.mono hb6.size)
            clear hoa hb7' hb6 hrz hrx6
            go_wp2_with fail
            refine (putValue_impl _ _ cz Y key val _ hrz7).mono ?_; rintro e w8 ⟨vb, rfl, hob, hwb, hb8'⟩
            rw [HF2.out] at hob hwb
            rw [HF2.out]
            simp only at hob hwb ⊢
            obtain ⟨gb, cb, rfl, hrb, -⟩ := rowE_of_owns hob (by omega) hwb
            have hra8 := hra.below hb8'
            have hb8 := hb7.trans (hb8'.mono hb7.size)
            go_wp2_with fail
            refine (sameStore_same _ _ _ ca cb Z _ hra8 hrb).mono ?_; rintro e w9 ⟨rfl, hd9⟩
            go_wp2
            go_ret
            exact ⟨rfl, hb8.trans (hd9.below _)⟩
    · have q1 : decide ((1048576 : Int) < (len : Int)) = false := by simp; omega
      have q2 : decide ((1048576 : Int) < (len' : Int)) = true := by simp; omega
      clear h hlc h' hlc'
      go_enter Try.func8, Try.ntmps8
      go_wp2
      go_ret
      exact ⟨rfl, Below.refl _ _⟩
  · have q1 : decide ((1048576 : Int) < (len : Int)) = true := by simp; omega
    clear h hlc h' hlc'
    go_enter Try.func8, Try.ntmps8
    go_wp2
    go_ret
    exact ⟨rfl, Below.refl _ _⟩
end Go.Proofs.Ytmblmmbcdmmpcaa

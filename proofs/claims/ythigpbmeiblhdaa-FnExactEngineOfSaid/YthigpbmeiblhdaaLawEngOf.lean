/- The walk of FnExactEngineOf. -/
import Derived.Test.YthigpbmeiblhdaaImplEngO
import Derived.Test.YthigpbmeiblhdaaMarkEng
import Derived.Test.YthigpbmeiblhdaaConvG
namespace Go.Proofs.Ythigpbmeiblhdaa
open Go.RowKit
set_option linter.unusedVariables false
set_option linter.unusedSimpArgs false
/-- What is new is spelled by its slices. -/
theorem newEng_formO {w : World} {B T : Nat} {t : EngT} {v1 v2 v3 v4 : Value} {e : Eng} {ts : List (Value × Value × Value)} (h : EngOwn w B T t v1 v2 v3 v4 e ts) : ∃ b1 m1 d1 b2 m2 d2 b3 m3 d3 b4 m4 d4, v1 = .slice b1 m1 d1 ∧ v2 = .slice b2 m2 d2 ∧ v3 = .slice b3 m3 d3 ∧ v4 = .slice b4 m4 d4 := by
  obtain ⟨⟨b1, m1, d1, rfl, -⟩, ⟨b2, m2, d2, rfl, -⟩, ⟨b3, m3, d3, rfl, -⟩, b4, m4, d4, rfl, -⟩ := h.rd
  exact ⟨b1, m1, d1, b2, m2, d2, b3, m3, d3, b4, m4, d4, rfl, rfl, rfl, rfl⟩
/-- Two engines and their boxes: that of the model, and the program's. -/
structure TwoE (w : World) (Z6 Z9 B0 T0 B1 T1 : Nat) (p1 p2 p3 p4 q1 q2 q3 q4 : Value) (E G : Eng) (ts0 ts1 : List (Value × Value × Value)) (W : World) : Prop where
  w0 : EngOwn W B0 T0 tEng p1 p2 p3 p4 E ts0
  z6 : EgAt W Z6 p1 p2 p3 p4
  g0 : EngOwn W B1 T1 tEng q1 q2 q3 q4 G ts1
  z9 : EgAt W Z9 q1 q2 q3 q4
  base : Below w.heap.size w W
theorem TwoE.below {w W W' : World} {Z6 Z9 B0 T0 B1 T1 : Nat} {p1 p2 p3 p4 q1 q2 q3 q4 : Value} {E G : Eng} {ts0 ts1 : List (Value × Value × Value)} (h : TwoE w Z6 Z9 B0 T0 B1 T1 p1 p2 p3 p4 q1 q2 q3 q4 E G ts0 ts1 W) (hb : Below W.heap.size W W') : TwoE w Z6 Z9 B0 T0 B1 T1 p1 p2 p3 p4 q1 q2 q3 q4 E G ts0 ts1 W' :=
  ⟨h.w0.below hb, h.z6.below hb, h.g0.below hb, h.z9.below hb, h.base.trans (hb.mono h.base.size)⟩
/-- A write between the two. -/
theorem TwoE.turn {w W W' : World} {Z6 Z9 B0 T0 B1 T1 B T : Nat} {p1 p2 p3 p4 q1 q2 q3 q4 : Value} {E G : Eng} {ts0 ts1 : List (Value × Value × Value)} (h : TwoE w Z6 Z9 B0 T0 B1 T1 p1 p2 p3 p4 q1 q2 q3 q4 E G ts0 ts1 W) (ht : Turn B T W W') (h1 : T0 ≤ B) (h2 : Z6 < B) (h3 : T ≤ B1) (h4 : T ≤ Z9) (h5 : w.heap.size ≤ B) : TwoE w Z6 Z9 B0 T0 B1 T1 p1 p2 p3 p4 q1 q2 q3 q4 E G ts0 ts1 W' :=
  ⟨⟨h.w0.tl, h.w0.own.turn ht (.inl h1), h.w0.wf⟩, h.z6.keep (ht.block _ h.z6.lt (.inl h2)), ⟨h.g0.tl, h.g0.own.turn ht (.inr (.inl h3)), h.g0.wf⟩, h.z9.keep (ht.block _ h.z9.lt (.inr h4)), ht.below h.base h5 h.base.size⟩
/-- The program's is marked. -/
theorem TwoE.mark {w W W' : World} {Z6 Z9 B0 T0 B1 T1 : Nat} {p1 p2 p3 p4 q1 q2 q3 q4 : Value} {E G G' : Eng} {ts0 ts1 : List (Value × Value × Value)} (h : TwoE w Z6 Z9 B0 T0 B1 T1 p1 p2 p3 p4 q1 q2 q3 q4 E G ts0 ts1 W) (ht : Turn B1 T1 W W') (hg : EngOwn W' B1 T1 tEng q1 q2 q3 q4 G' ts1) (h1 : T0 ≤ B1) (h2 : Z6 < B1) (h4 : T1 ≤ Z9) (h5 : w.heap.size ≤ B1) : TwoE w Z6 Z9 B0 T0 B1 T1 p1 p2 p3 p4 q1 q2 q3 q4 E G' ts0 ts1 W' :=
  ⟨⟨h.w0.tl, h.w0.own.turn ht (.inl h1), h.w0.wf⟩, h.z6.keep (ht.block _ h.z6.lt (.inl h2)), hg, h.z9.keep (ht.block _ h.z9.lt (.inr h4)), ht.below h.base h5 h.base.size⟩
theorem engOfM_len (S : List Ent) (L : List Acn) : (engOfM S L).base.length ≤ 32 ∧ (engOfM S L).list.length ≤ 10 ∧ (engOfM S L).vers.length = 0 ∧ wtSl (engOfM S L).slots ≤ 10 := by
  cases h : storeB S && actsB L with
  | false => rw [engOfM_no h]; exact ⟨by simp [noEng], by simp [noEng], rfl, by simp [noEng, wtSl, sumSl]⟩
  | true =>
    rw [Bool.and_eq_true] at h
    rw [engOfM_yes h.1 h.2]
    have h10 := (actsB_true h.2).1
    have hs : ∀ n, sumSl (List.replicate n noSlt) = 0 := by
      intro n
      induction n with
      | zero => rfl
      | succ n ih => rw [List.replicate_succ, sumSl, ih]; rfl
    exact ⟨store_len h.1, h10, rfl, by simp only [wtSl, hs, List.length_replicate]; omega⟩
theorem wtEng_of (S : List Ent) (L : List Acn) : wtEng (engOfM S L) ≤ 1000 := by
  obtain ⟨h1, h2, h3, h4⟩ := engOfM_len S L
  unfold wtEng; omega
set_option maxRecDepth 100000 in
set_option maxHeartbeats 8000000 in
theorem lawExactEngineOf (a : Option Addr) (n c : Nat) (S : List Ent) (b : Option Addr) (m d : Nat) (L : List Acn) (w : World) (h : RowE w a n S) (hz : a = none → c = 0) (hc : n ≤ c) (h2 : RowA w b m L) (hz2 : b = none → d = 0) (hd : m ≤ d) :
    Calls Try.prog 3 #[.slice a n c, .slice b m d] w (LawTrue w) := by
  have HS := Lib.hid h
  have HL := Lib.hid h2
  have hm0 := h.2.1
  have hm1 := h2.2.1
  clear h h2 hz hz2 hc hd
  go_enter Try.func3, Try.ntmps3
  go_wp2_with fail
  refine (szEntryS_any a n c 1048576 _ (by omega) (by omega) hm0).mono ?_; rintro e w' ⟨rfl, rfl⟩
  by_cases hs1 : (n : Int) ≤ 1048576
  · rw [if_pos hs1]
    have hk1 : decide ((1048576 : Int) - (n : Int) < 0) = false := by simp; omega
    have hn1 : n ≤ 1048576 := by omega
    go_wp2_with fail
    refine (szActionS_any b m d _ _ (by omega) (by omega) hm1).mono ?_; rintro e w' ⟨rfl, rfl⟩
    by_cases hs2 : (m : Int) ≤ 1048576 - (n : Int)
    · rw [if_pos hs2]
      have hk2 : decide ((1048576 : Int) - (n : Int) - (m : Int) < 0) = false := by simp; omega
      have hn2 : m ≤ 1048576 := by omega
      obtain rfl := HS.out.1
      obtain rfl := HL.out.1
      obtain ⟨E, hE⟩ : ∃ E, E = engOfM S L := ⟨_, rfl⟩
      have HE := Lib.hid hE
      have HW := Lib.hid (wtEng_of S L)
      rw [← hE] at HW
      have hS := HS.out
      clear hE hs1 hs2
      go_wp2_with fail
      refine (toEntryS_any a _ c S _ hS hn1).mono ?_; rintro e w1 ⟨v1, rfl, ho1, hw1, hb1⟩
      obtain ⟨g1, d1, rfl, hB1, hr1⟩ := rowE_of_own ho1 (by omega) hw1
      have HR1 := Lib.hid hr1
      have HB1 := Lib.hid hb1
      have hL := HL.out.below hb1
      clear ho1 hw1 hr1 hb1 hS
      go_wp2_with fail
      refine (toActionS_any b _ d L _ hL hn2).mono ?_; rintro e w2 ⟨v2, rfl, ho2, hw2, hb2⟩
      obtain ⟨g2, d2, rfl, hB2, hl2, hr2, hcc2⟩ := rowA_of_own ho2 (by omega) hw2
      have HR2 := Lib.hid hr2
      have HR12 := Lib.hid (HR1.out.below hb2)
      have HB2 := Lib.hid (HB1.out.trans (hb2.mono HB1.out.size))
      clear ho2 hw2 hr2 hb2 hcc2 hL HR1 HB1
      go_wp2_with fail
      refine (engineOf_spec _ _ _ S _ _ _ L _ HR12.out (fun h => by cases h) HR2.out (fun h => by cases h)).mono ?_; rintro e w3 ⟨p1, p2, p3, p4, ts0, rfl, ho3, hb3⟩
      rw [← HE.out] at ho3
      obtain ⟨b1, n1, k1, b2, n2, k2, b3, n3, k3, b4, n4, k4, rfl, rfl, rfl, rfl⟩ := newEng_formO ho3
      have HB3 := Lib.hid (HB2.out.trans (hb3.mono HB2.out.size))
      have HO3 := Lib.hid ho3
      have HZ23 := Lib.hid hb3.size
      clear ho3 hb3 HR2 HR12
      go_upto_region 9 with (fail)
      generalize hw4 : World.alloc _ _ = w4
      have hb4 : Below w3.heap.size w3 w4 := by rw [← hw4]; exact (Below.refl _ _).alloc (Nat.le_refl _) _
      have hz4 : w4.heap.size = w3.heap.size + 1 := by rw [← hw4]; simp
      have hZ6 : EgAt w4 w3.heap.size (.slice b1 n1 k1) (.slice b2 n2 k2) (.slice b3 n3 k3) (.slice b4 n4 k4) := by rw [← hw4]; exact egAt_new w3 _ _ _ _ _
      have HO4 := Lib.hid (HO3.out.below hb4)
      have HB4 := Lib.hid (HB3.out.trans (hb4.mono HB3.out.size))
      have HZ6 := Lib.hid hZ6
      have hS4 := HS.out.below HB4.out
      have HZ4 := Lib.hid hz4
      have HWZ := Lib.hid HB3.out.size
      clear hw4 hb4 hz4 hZ6 HO3 HB3 HB2
      obtain ⟨Z6, hZ6⟩ : ∃ Z, Z = w3.heap.size := ⟨_, rfl⟩
      rw [← hZ6] at HO4 HZ6 HZ4 HZ23 HWZ ⊢
      clear hZ6
      go_wp2_with fail
      refine (toEntryS_any a _ c S _ hS4 hn1).mono ?_; rintro e w5 ⟨v5, rfl, ho5, hw5, hb5⟩
      obtain ⟨gx, dx, rfl, hBx, hrx⟩ := rowE_of_own ho5 (by omega) hw5
      have HX5 := Lib.hid ho5.1
      have HWX := Lib.hid hw5
      have HO5 := Lib.hid (HO4.out.below hb5)
      have HZ65 := Lib.hid (HZ6.out.below hb5)
      have HB5 := Lib.hid (HB4.out.trans (hb5.mono HB4.out.size))
      have hL5 := HL.out.below HB5.out
      have HS45 := Lib.hid hb5.size
      have HGX := Lib.hid (ho5.1.lt gx rfl)
      clear ho5 hw5 hrx hb5 hS4 HO4 HZ6 HB4
      go_wp2_with fail
      refine (toActionS_any b _ d L _ hL5 hn2).mono ?_; rintro e w6 ⟨v6, rfl, ho6, hw6, hb6⟩
      obtain ⟨gy, dy, rfl, hBy, hly, hry, hccy⟩ := rowA_of_own ho6 (by omega) hw6
      have HY6 := Lib.hid ho6.1
      have HWY := Lib.hid hw6
      have HX6 := Lib.hid (owns_below HX5.out hb6)
      have HO6 := Lib.hid (HO5.out.below hb6)
      have HZ66 := Lib.hid (HZ65.out.below hb6)
      have HB6 := Lib.hid (HB5.out.trans (hb6.mono HB5.out.size))
      have HS56 := Lib.hid hb6.size
      have HGY := Lib.hid (ho6.1.lt gy rfl)
      clear ho6 hw6 hry hb6 hccy hL5 HO5 HZ65 HB5 HX5
      go_wp2_with fail
      refine (engineOf_impl _ _ _ S _ _ _ L _ (rowE_owned HX6.out rfl (by omega) HWX.out) (fun h => by cases h) (rowA_owned HY6.out rfl (by omega) HWY.out) (fun h => by cases h)).mono ?_; rintro e w7 ⟨q1, q2, q3, q4, ts1, rfl, ho7, hb7⟩
      rw [← HE.out] at ho7
      obtain ⟨e1, i1, j1, e2, i2, j2, e3, i3, j3, e4, i4, j4, rfl, rfl, rfl, rfl⟩ := newEng_formO ho7
      have HO7 := Lib.hid ho7
      have HO67 := Lib.hid (HO6.out.below hb7)
      have HZ67 := Lib.hid (HZ66.out.below hb7)
      have HX7 := Lib.hid (owns_below HX6.out hb7)
      have HY7 := Lib.hid (owns_below HY6.out hb7)
      have HB7 := Lib.hid (HB6.out.trans (hb7.mono HB6.out.size))
      have HS67 := Lib.hid hb7.size
      clear ho7 hb7 HO6 HZ66 HB6 HX6 HY6
      go_upto_region 12 with (fail)
      generalize hw8 : World.alloc _ _ = w8
      have hb8 : Below w7.heap.size w7 w8 := by rw [← hw8]; exact (Below.refl _ _).alloc (Nat.le_refl _) _
      have hz8 : w8.heap.size = w7.heap.size + 1 := by rw [← hw8]; simp
      have hZ9 : EgAt w8 w7.heap.size (.slice e1 i1 j1) (.slice e2 i2 j2) (.slice e3 i3 j3) (.slice e4 i4 j4) := by rw [← hw8]; exact egAt_new w7 _ _ _ _ _
      have hT8 : TwoE w Z6 w7.heap.size w2.heap.size Z6 w6.heap.size w7.heap.size (.slice b1 n1 k1) (.slice b2 n2 k2) (.slice b3 n3 k3) (.slice b4 n4 k4) (.slice e1 i1 j1) (.slice e2 i2 j2) (.slice e3 i3 j3) (.slice e4 i4 j4) E E ts0 ts1 w8 := ⟨HO67.out.below hb8, HZ67.out.below hb8, HO7.out.below hb8, hZ9, HB7.out.trans (hb8.mono HB7.out.size)⟩
      have HT8 := Lib.hid hT8
      have HX8 := Lib.hid (owns_below HX7.out hb8)
      have HY8 := Lib.hid (owns_below HY7.out hb8)
      clear hw8 hb8 hZ9 hT8 HO7 HO67 HZ67 HX7 HY7 HB7
      have hq46 : Z6 + 1 ≤ w4.heap.size ∧ w4.heap.size ≤ w5.heap.size ∧ w5.heap.size ≤ w6.heap.size ∧ w6.heap.size ≤ w7.heap.size ∧ w.heap.size ≤ Z6 := by
        have := HZ4.out; have := HS45.out; have := HS56.out; have := HS67.out; have := HWZ.out
        omega
      obtain ⟨hq1, hq2, hq3, hq4, hq5⟩ := hq46
      have hgx := HGX.out
      have hgy := HGY.out
      obtain ⟨Z9, hZ9⟩ : ∃ Z, Z = w7.heap.size := ⟨_, rfl⟩
      obtain ⟨B0, hB0⟩ : ∃ Z, Z = w2.heap.size := ⟨_, rfl⟩
      obtain ⟨B1, hB1'⟩ : ∃ Z, Z = w6.heap.size := ⟨_, rfl⟩
      rw [← hZ9, ← hB0, ← hB1'] at HT8
      rw [← hZ9] at hz8 hq4 ⊢
      rw [← hB1'] at hq3 hq4 hgy
      have hgxB : Z6 < gx ∧ gx < B1 ∧ Z6 < gy ∧ gy < B1 ∧ gx ≠ gy ∧ w.heap.size ≤ gx ∧ w.heap.size ≤ gy := by omega
      obtain ⟨hx1, hx2, hy1, hy2, hxy, hx3, hy3⟩ := hgxB
      have HZ8 := Lib.hid hz8
      clear hZ9 hB0 hB1' HGX HGY HZ4 HS45 HS56 HS67 HWZ HZ23 hgx hgy hz8
      -- the two answers
      obtain ⟨p0, p1, p2, p3, -⟩ := HT8.out.z6
      obtain ⟨q0, q1, q2, q3, -⟩ := HT8.out.z9
      go_wp2_with fail
      refine (eqEngine_same _ _ _ _ _ _ _ _ E _ HT8.out.g0.rd HT8.out.w0.rd).mono ?_; rintro e w9 ⟨rfl, hb9⟩
      have HT9 := Lib.hid (HT8.out.below hb9)
      have HX9 := Lib.hid (owns_below HX8.out hb9)
      have HY9 := Lib.hid (owns_below HY8.out hb9)
      have hS9 := HS.out.below HT9.out.base
      clear hb9 HT8 HX8 HY8 p0 p1 p2 p3 q0 q1 q2 q3
      go_wp2_with fail
      refine (toEntryS_any a _ c S _ hS9 hn1).mono ?_; rintro e w10 ⟨v10, rfl, ho10, hw10, hb10⟩
      obtain ⟨g10, d10, rfl, hB10, hr10⟩ := rowE_of_own ho10 (by omega) hw10
      have HR10 := Lib.hid hr10
      have HT10 := Lib.hid (HT9.out.below hb10)
      have HX10 := Lib.hid (owns_below HX9.out hb10)
      have HY10 := Lib.hid (owns_below HY9.out hb10)
      clear ho10 hw10 hr10 hB10 hb10 HT9 HX9 HY9 hS9
      go_wp2_with fail
      refine (eqEntryS_same _ _ _ _ _ S _ (rowE_owned HX10.out rfl (by omega) HWX.out) HR10.out).mono ?_; rintro e w11 ⟨rfl, hb11⟩
      have HT11 := Lib.hid (HT10.out.below hb11)
      have HX11 := Lib.hid (owns_below HX10.out hb11)
      have HY11 := Lib.hid (owns_below HY10.out hb11)
      have hL11 := HL.out.below HT11.out.base
      clear hb11 HT10 HX10 HY10 HR10
      go_wp2_with fail
      refine (toActionS_any b _ d L _ hL11 hn2).mono ?_; rintro e w12 ⟨v12, rfl, ho12, hw12, hb12⟩
      obtain ⟨g12, d12, rfl, hB12, hl12, hr12, hc12⟩ := rowA_of_own ho12 (by omega) hw12
      have HR12 := Lib.hid hr12
      have HT12 := Lib.hid (HT11.out.below hb12)
      have HX12 := Lib.hid (owns_below HX11.out hb12)
      have HY12 := Lib.hid (owns_below HY11.out hb12)
      clear ho12 hw12 hr12 hB12 hl12 hc12 hb12 HT11 HX11 HY11 hL11
      go_wp2_with fail
      refine (eqActionS_same _ _ _ _ _ L _ (rowA_owned HY12.out rfl (by omega) HWY.out) HR12.out).mono ?_; rintro e w13 ⟨rfl, hb13⟩
      have HT13 := Lib.hid (HT12.out.below hb13)
      have HX13 := Lib.hid (owns_below HX12.out hb13)
      have HY13 := Lib.hid (owns_below HY12.out hb13)
      clear hb13 HT12 HX12 HY12 HR12
      -- the arguments are marked
      go_wp2_with fail
      refine (markEntryS_own _ _ (.slice (some ⟨gx, 0, none⟩) S.length dx) S 1 _ HX13.out rfl (by omega) (by omega) (by omega)).mono ?_; rintro e w14 ⟨rfl, ho14, hg14⟩
      have HT14 := Lib.hid (HT13.out.turn (Turn.ofGrown (B := gx) (T := gx + 1) hg14 (fun k hk => by have hk : some gx = some k := hk; cases hk; exact ⟨Nat.le_refl _, Nat.lt_succ_self _⟩)) (by omega) (by omega) (by omega) (by omega) (by omega))
      have HY14 := Lib.hid (owns_keep HY13.out (w' := w14) fun k hk => hg14.block k (HY13.out.lt k (by have hk : some gy = some k := hk; cases hk; rfl)).2 (fun e => by have e : some k = some gx := e; have hk : some gy = some k := hk; cases e; cases hk; exact hxy rfl))
      clear ho14 hg14 HT13 HX13 HY13
      go_wp2_with fail
      refine (markActionS_ownX _ gy _ dy _ _ _ HY14.out (by omega) (by omega) (by omega)).mono ?_; rintro e w15 ⟨rfl, hg15⟩
      have HT15 := Lib.hid (HT14.out.turn (Turn.ofGrown (B := gy) (T := gy + 1) hg15 (fun k hk => by cases hk; exact ⟨Nat.le_refl _, Nat.lt_succ_self _⟩)) (by omega) (by omega) (by omega) (by omega) (by omega))
      have hkp : decide ((1 : Int) + 2 * (S.length : Int) + 4 * (L.length : Int) < 0) = false := by simp; omega
      obtain ⟨p0, p1, p2, p3, -⟩ := HT15.out.z6
      obtain ⟨q0, q1, q2, q3, -⟩ := HT15.out.z9
      clear hg15 HT14 HY14
      go_wp2_with fail
      refine (eqEngine_same _ _ _ _ _ _ _ _ E _ HT15.out.g0.rd HT15.out.w0.rd).mono ?_; rintro e w16 ⟨rfl, hb16⟩
      have HT16 := Lib.hid (HT15.out.below hb16)
      obtain ⟨q0, q1, q2, q3, -⟩ := HT16.out.z9
      have hs16 : Z9 ≤ w16.heap.size := Nat.le_of_lt HT16.out.z9.lt
      clear hb16 HT15 p0 p1 p2 p3
      -- the answer is marked
      go_wp2_with fail
      refine (markEngine_any _ _ _ _ _ _ E ts1 1 _ HT16.out.g0 (by have := HW.out; omega) (by omega) (by omega) hs16).mono ?_; rintro e w17 ⟨rfl, ho17, ht17⟩
      have HT17 := Lib.hid (HT16.out.mark ht17 ho17 (by omega) (by omega) (by omega) (by omega))
      have HR17 := Lib.hid ho17.rd
      obtain ⟨q0, q1, q2, q3, -⟩ := HT17.out.z9
      clear ho17 ht17 HT16 hs16
      have HELD : Hid (∀ W, EngRd W (.slice e1 i1 j1) (.slice e2 i2 j2) (.slice e3 i3 j3) (.slice e4 i4 j4) (markedEng 1 E) → Calls Try.prog 16 #[.agg #[.slice e1 i1 j1, .slice e2 i2 j2, .slice e3 i3 j3, .slice e4 i4 j4], .int .i64 1] W fun e w' => e = .returned (.int .i64 (1 + (mkEngN E : Nat))) ∧ Below W.heap.size W w') := Lib.hid (fun W hr => by
        have hwt := HW.out
        obtain ⟨⟨_, _, _, h1, r1, -, -⟩, ⟨_, _, _, h2, r2, -, -⟩, ⟨_, _, _, h3, r3, -, -⟩, _, _, _, h4, r4, -, -⟩ := hr
        simp only [Value.slice.injEq] at h1 h2 h3 h4
        obtain ⟨rfl, rfl, rfl⟩ := h1
        obtain ⟨rfl, rfl, rfl⟩ := h2
        obtain ⟨rfl, rfl, rfl⟩ := h3
        obtain ⟨rfl, rfl, rfl⟩ := h4
        have l1 : E.base.length = i1 := by have := r1.1; simpa [markedEng, marksE_len] using this
        have l2 : E.list.length = i2 := by have := r2.1; simpa [markedEng, marksA_len] using this
        have l3 : E.vers.length = i3 := by have := r3.1; simpa [markedEng, marksV_len] using this
        have l4 : E.slots.length = i4 := by have := r4.1; simpa [markedEng, marksSl_len] using this
        unfold wtEng at hwt
        simp only [markedEng] at r1 r2 r3 r4
        rw [l1] at r1 r2 r3 r4
        rw [l2] at r3 r4
        rw [l2] at r2
        rw [l3] at r3 r4
        refine (heldEngine_any e1 e2 e3 e4 i1 i2 i3 i4 j1 j2 j3 j4 E.slots 1 W r1 r2 r3 r4 l4 (by omega) (by omega) (by omega) (by omega) (by omega) (by omega)).mono ?_
        rintro e w' ⟨rfl, hb⟩
        refine ⟨?_, hb⟩
        unfold mkEngN
        rw [l1, l2, l3, l4]
        exact ret_int (by omega))
      obtain ⟨mk, hmk⟩ : ∃ q, q = mkEngN E := ⟨_, rfl⟩
      rw [← hmk] at HELD ⊢
      clear hmk
      have hk0 : decide ((1 : Int) + (mk : Int) < 0) = false := by simp; omega
      have hkk : ((1 : Int) + (mk : Int) != (1 : Int) + (mk : Int)) = false := by simp
      go_wp2_with fail
      refine (HELD.out _ HR17.out).mono ?_; rintro e w18 ⟨rfl, hb18⟩
      have HT18 := Lib.hid (HT17.out.below hb18)
      have hS18 := HS.out.below HT18.out.base
      clear hb18 HT17 HR17 q0 q1 q2 q3
      -- another answer
      go_wp2_with fail
      refine (toEntryS_any a _ c S _ hS18 hn1).mono ?_; rintro e w19 ⟨v19, rfl, ho19, hw19, hb19⟩
      obtain ⟨g19, d19, rfl, hB19, hr19⟩ := rowE_of_own ho19 (by omega) hw19
      have HR19 := Lib.hid hr19
      have HT19 := Lib.hid (HT18.out.below hb19)
      have hL19 := HL.out.below HT19.out.base
      clear ho19 hw19 hr19 hB19 hb19 HT18 hS18
      go_wp2_with fail
      refine (toActionS_any b _ d L _ hL19 hn2).mono ?_; rintro e w20 ⟨v20, rfl, ho20, hw20, hb20⟩
      obtain ⟨g20, d20, rfl, hB20, hl20, hr20, hc20⟩ := rowA_of_own ho20 (by omega) hw20
      have HR20 := Lib.hid hr20
      have HR190 := Lib.hid (HR19.out.below hb20)
      have HT20 := Lib.hid (HT19.out.below hb20)
      clear ho20 hw20 hr20 hB20 hl20 hc20 hb20 HT19 hL19 HR19
      go_wp2_with fail
      refine (engineOf_impl _ _ _ S _ _ _ L _ HR190.out (fun h => by cases h) HR20.out (fun h => by cases h)).mono ?_; rintro e w21 ⟨x1, x2, x3, x4, ts2, rfl, ho21, hb21⟩
      rw [← HE.out] at ho21
      obtain ⟨f1, y1, z1, f2, y2, z2, f3, y3, z3, f4, y4, z4, rfl, rfl, rfl, rfl⟩ := newEng_formO ho21
      have HT21 := Lib.hid (HT20.out.below hb21)
      have HO21 := Lib.hid ho21
      clear ho21 hb21 HT20 HR20 HR190
      go_upto_region 32 with (fail)
      generalize hw22 : World.alloc _ _ = w22
      have hb22 : Below w21.heap.size w21 w22 := by rw [← hw22]; exact (Below.refl _ _).alloc (Nat.le_refl _) _
      have hZ22 : EgAt w22 w21.heap.size (.slice f1 y1 z1) (.slice f2 y2 z2) (.slice f3 y3 z3) (.slice f4 y4 z4) := by rw [← hw22]; exact egAt_new w21 _ _ _ _ _
      have HT22 := Lib.hid (HT21.out.below hb22)
      have HO22 := Lib.hid (HO21.out.below hb22)
      obtain ⟨u0, u1, u2, u3, -⟩ := hZ22
      obtain ⟨p0, p1, p2, p3, -⟩ := HT22.out.z6
      clear hw22 hb22 HT21 HO21
      go_wp2_with fail
      refine (eqEngine_same _ _ _ _ _ _ _ _ E _ HO22.out.rd HT22.out.w0.rd).mono ?_; rintro e w23 ⟨rfl, hb23⟩
      have HT23 := Lib.hid (HT22.out.below hb23)
      obtain ⟨q0, q1, q2, q3, -⟩ := HT23.out.z9
      clear hb23 HT22 HO22 u0 u1 u2 u3 p0 p1 p2 p3
      go_wp2_with fail
      refine (HELD.out _ HT23.out.g0.rd).mono ?_; rintro e w24 ⟨rfl, hb24⟩
      have HB24 := Lib.hid (HT23.out.below hb24).base
      clear hb24 HT23 q0 q1 q2 q3 HELD
      go_wp2
      go_ret
      exact ⟨rfl, HB24.out⟩
    · rw [if_neg hs2]
      have HB := Lib.hid (Below.refl w.heap.size w)
      go_wp2
      go_ret
      exact ⟨rfl, HB.out⟩
  · rw [if_neg hs1]
    have HB := Lib.hid (Below.refl w.heap.size w)
    go_wp2
    go_ret
    exact ⟨rfl, HB.out⟩
end Go.Proofs.Ythigpbmeiblhdaa

/- The walk of the exact law of RunSerial. -/
import Derived.Test.YtpnahncmhldgdaaConvFs3
import Derived.Test.YtpnahncmhldgdaaConvA
import Derived.Test.YtpnahncmhldgdaaImplSer
import Derived.Test.YtpnahncmhldgdaaLawActR
namespace Go.Proofs.Ytpnahncmhldgdaa
open Go.RowKit
set_option linter.unusedVariables false
theorem TurnQ.below {Q : Nat → Prop} {C : Nat} {a w w' : World} (h : TurnQ Q w w') (hb : Below C a w) (hq : ∀ p, Q p → C ≤ p) (hs : C ≤ w.heap.size) : Below C a w' :=
  hb.trans ⟨h.os, h.tape, h.output, h.size, fun k hk => h.block k (by omega) (fun q => by have := hq k q; omega)⟩
/-- Only other blocks have turned. -/
theorem OwnSF.keep {w w' : World} {B T : Nat} {eX eE : TypeId} {v u : Value} {S : List Ent} {L : List Eff} (h : OwnSF w B T eX eE v u S L) (hk : ∀ p, p < w.heap.size → B ≤ p → p < T → w'.heap[p]? = w.heap[p]?) : OwnSF w' B T eX eE v u S L := by
  obtain ⟨h1, h2, h3, h4, xs, h5, h6⟩ := h
  have hlt := h5.blk_lt
  obtain ⟨g1, g2, g3, g4, g5⟩ := h5
  refine ⟨owns_keep h1 (fun p hp => by rw [owns_blk h1] at hp; exact hk p (h1.lt p hp).2 (h1.lt p hp).1 (h3 p hp)), h2, h3, h4, xs, ⟨owns_keep g1 (fun b hb => by have := hlt u List.mem_cons_self b hb; exact hk b this.2.2 this.1 this.2.1), g2, g3, fun i c x hc hx => ?_, g5⟩, h6⟩
  have hm := List.mem_cons_of_mem u (List.mem_of_getElem? hx)
  exact ⟨c.keep (g4 i c x hc hx).1 (fun b hb => by have := hlt x hm b hb; exact hk b this.2.2 this.1 this.2.1), (g4 i c x hc hx).2⟩
theorem OwnSF.grown1 {w w' : World} {B T g : Nat} {eX eE : TypeId} {v u : Value} {S : List Ent} {L : List Eff} (h : OwnSF w B T eX eE v u S L) (hg : w.grownBy w' (some g)) (hd : g < B ∨ T ≤ g) : OwnSF w' B T eX eE v u S L :=
  h.keep (fun p hp h1 h2 => hg.block p hp (by simp; omega))
theorem OwnSF.reads {w : World} {B T q q' : Nat} {p p' : Option Addr} {eX eE : TypeId} {S : List Ent} {L : List Eff} (h : OwnSF w B T eX eE (.slice p S.length q) (.slice p' L.length q') S L) (hl : S.length ≤ 4000000) : RowE w p S.length S ∧ RowFs w p' L.length L := by
  obtain ⟨a1, c1, e1, r1, -⟩ := h.row hl
  obtain ⟨a2, c2, e2, r2, -, -⟩ := rowFs_of_own h.effs
  simp only [Value.slice.injEq, true_and] at e1 e2
  obtain ⟨rfl, -⟩ := e1
  obtain ⟨rfl, -⟩ := e2
  exact ⟨r1, r2⟩
theorem OwnFQ.reads {w : World} {B T q' n : Nat} {Q : Nat → Prop} {p' : Option Addr} {eX eE : TypeId} {L : List Eff} (h : OwnFQ w B T Q eX eE (.slice p' n q') L) (hn : L.length = n) : RowFs w p' n L := by
  subst hn
  obtain ⟨a2, c2, e2, r2, -, -⟩ := rowFs_of_own h.fs
  simp only [Value.slice.injEq, true_and] at e2
  obtain ⟨rfl, -⟩ := e2
  exact r2
theorem sumX_le {L : List Eff} {c : Nat} (h : ∀ x ∈ L, x.rds.length + x.wrs.length ≤ c) : sumX L ≤ L.length * c := by
  induction L with
  | nil => simp [sumX]
  | cons a r ih =>
    have h1 := h a (by simp)
    have h2 := ih (fun x hx => h x (List.mem_cons_of_mem _ hx))
    simp only [sumX, List.length_cons, Nat.add_mul]; omega
theorem serM_wt (S : List Ent) (L : List Acn) : wtX (serM S L).2 ≤ 1000 := by
  have h1 := sumX_le (L := (serM S L).2) (c := 34) (fun x hx => by have := serM_eff S L x hx; omega)
  have h2 := serM_len S L
  have h3 : (serM S L).2.length * 34 ≤ 10 * 34 := Nat.mul_le_mul_right _ h2
  unfold wtX; omega
set_option maxHeartbeats 2000000 in
theorem markActionS_own (B g n cap : Nat) (xs : List Value) (k : Int) (w : World) (h : w.ownsRow B 42 4 (.slice (some ⟨g, 0, none⟩) n cap) n xs) (hn : n ≤ 4000000) (hk0 : 0 ≤ k) (hk1 : k ≤ 100000000) :
    Calls Try.prog 41 #[.slice (some ⟨g, 0, none⟩) n cap, .int .i64 k] w fun e w' => e = .returned (.int .i64 (k + 4 * n)) ∧ w.grownBy w' (some g) := by
  go_enter Try.func41, Try.ntmps41
  go_wp2
  go_loopw [1, 5] (fun q i wr => ∃ j : Nat, j ≤ n ∧ i = .int .i64 j ∧ q = .int .i64 (k + 4 * j) ∧ (∃ ys, wr.ownsRow B 42 4 (.slice (some ⟨g, 0, none⟩) n cap) n ys) ∧ w.grownBy wr (some g)) (fun _ i _ => n - (intOf i).toNat)
  case atStart => exact ⟨0, Nat.zero_le _, rfl, by simp, ⟨xs, h⟩, World.grownBy.refl _ _⟩
  case round =>
    obtain ⟨j, hj, rfl, rfl, ⟨ys, hown⟩, hg⟩ := hrel
    clear h
    by_cases hlt : j < n
    · have hl := hown.1
      have hex : ∀ i, i < 4 → ∃ u, wr.cell? ⟨g, j * 4 + i, none⟩ = some u := fun i hi => by
        rw [hown.cellAt (j * 4 + i) (by omega)]; exact ⟨_, List.getElem?_eq_getElem (by omega)⟩
      obtain ⟨u0, hu0⟩ := hex 0 (by omega)
      obtain ⟨u1, hu1⟩ := hex 1 (by omega)
      obtain ⟨u2, hu2⟩ := hex 2 (by omega)
      obtain ⟨u3, hu3⟩ := hex 3 (by omega)
      have hf0 := hown.frozenAt (j * 4)
      have hf1 := hown.frozenAt (j * 4 + 1)
      have hf2 := hown.frozenAt (j * 4 + 2)
      have hf3 := hown.frozenAt (j * 4 + 3)
      rw [Nat.add_zero] at hu0
      obtain ⟨s0, t0⟩ := hown.stored (j * 4) (.int .i64 (k + 4 * j))
      obtain ⟨s1, t1⟩ := s0.stored (j * 4 + 1) (.int .i64 (k + 4 * j + 1))
      obtain ⟨s2, t2⟩ := s1.stored (j * 4 + 2) (.int .i64 (k + 4 * j + 1 + 1))
      obtain ⟨s3, t3⟩ := s2.stored (j * 4 + 3) (.int .i64 (k + 4 * j + 1 + 1 + 1))
      have HST := Lib.hid s3
      have HG := Lib.hid (grownBy_trans hg (grownBy_trans (grownBy_set wr g (j * 4) (.int .i64 (k + 4 * j))) (grownBy_trans (grownBy_set _ g (j * 4 + 1) (.int .i64 (k + 4 * j + 1))) (grownBy_trans (grownBy_set _ g (j * 4 + 2) (.int .i64 (k + 4 * j + 1 + 1))) (grownBy_set _ g (j * 4 + 3) (.int .i64 (k + 4 * j + 1 + 1 + 1)))))))
      clear s0 t0 s1 t1 s2 t2 s3 t3 hg hown hex hl
      go_wp2
      go_roundw
      case rel => exact ⟨j + 1, by omega, by go_num, by congr 1; omega, ⟨_, HST.out⟩, HG.out⟩
      case measure => simp [intOf]; omega
    · obtain rfl : j = n := by omega
      go_wp2
      go_ret
      exact ⟨rfl, hg⟩
set_option maxRecDepth 100000 in
set_option maxHeartbeats 8000000 in
theorem lawExactRunSerial (a : Option Addr) (n cap : Nat) (S : List Ent) (b : Option Addr) (m cap' : Nat) (L : List Acn) (w : World) (h : RowE w a n S) (hc : a = none → cap = 0) (hlc : n ≤ cap) (h' : RowA w b m L) (hc' : b = none → cap' = 0) (hlc' : m ≤ cap') :
    Calls Try.prog 8 #[.slice a n cap, .slice b m cap'] w (LawTrue w) := by
  have HS := Lib.hid h
  have HA := Lib.hid h'
  have hm := h.2.1
  have hm' := h'.2.1
  clear h h' hc hlc hc' hlc'
  go_enter Try.func8, Try.ntmps8
  go_wp2_with fail
  refine (szEntryS_any a n cap 1048576 _ (by omega) (by omega) hm).mono ?_; rintro e w' ⟨rfl, rfl⟩
  by_cases hn : (n : Int) ≤ 1048576
  · rw [if_pos hn]
    have hnn0 : decide ((1048576 : Int) - (n : Int) < 0) = false := by simp; omega
    go_wp2_with fail
    refine (szActionS_any b m cap' (1048576 - n) _ (by omega) (by omega) hm').mono ?_; rintro e w' ⟨rfl, rfl⟩
    by_cases hs : (m : Int) ≤ 1048576 - n
    · rw [if_pos hs]
      have hse : n ≤ 1048576 := by omega
      have hsa : m ≤ 1048576 := by omega
      have hnn : decide ((1048576 : Int) - (n : Int) - (m : Int) < 0) = false := by simp; omega
      clear hs hn hm hm'
      obtain rfl := HS.out.1
      obtain rfl := HA.out.1
      have hPl := serM_store S L
      have hXl := serM_len S L
      have hXw := serM_wt S L
      obtain ⟨P, hP⟩ : ∃ P, P = (serM S L).1 := ⟨_, rfl⟩
      obtain ⟨X, hX⟩ : ∃ X, X = (serM S L).2 := ⟨_, rfl⟩
      have HP := Lib.hid hP
      have HX := Lib.hid hX
      rw [← hP] at hPl
      rw [← hX] at hXl hXw
      have hXo : offX X X.length ≤ 3000 := by
        have h1 := sumX_take X X.length
        unfold wtX at hXw; unfold offX; omega
      clear hP hX
      go_wp2_with fail
      refine (toEntryS_any a _ cap S _ HS.out hse).mono ?_; rintro e w1 ⟨v1, rfl, ho1, hw1, hb1⟩
      obtain ⟨g1, c1, rfl, -, hr1⟩ := rowE_of_own ho1 (by omega) hw1
      clear ho1
      go_wp2_with fail
      refine (toActionS_any b _ cap' L _ (HA.out.below hb1) hsa).mono ?_; rintro e w2 ⟨v2, rfl, ho2, hw2, hb2'⟩
      have hb2 := hb1.trans (hb2'.mono hb1.size)
      obtain ⟨g2, c2, rfl, -, -, hra2, -⟩ := rowA_of_own ho2 (by omega) hw2
      have hr12 := hr1.below hb2'
      clear ho2 hb2' hr1 hb1
      go_wp2_with fail
      refine (runSerial_spec _ _ c1 S _ _ c2 L _ hr12 (fun h => by cases h) hra2).mono ?_; rintro e w3 ⟨vW, uW, rfl, hW3, hb3'⟩
      rw [← HP.out, ← HX.out] at hW3
      obtain ⟨aW, cW, rfl, -, -⟩ := hW3.row (by omega)
      obtain ⟨bW, dW, rfl, -, -, -⟩ := rowFs_of_own hW3.effs
      have hb3 := hb2.trans (hb3'.mono hb2.size)
      clear hb3' hr12 hra2
      go_wp2_with fail
      refine (toEntryS_any a _ cap S _ (HS.out.below hb3) hse).mono ?_; rintro e w4 ⟨vx, rfl, hox, hwx, hb4'⟩
      have hb4 := hb3.trans (hb4'.mono hb3.size)
      have hW4 := hW3.below hb4'
      obtain ⟨gx, cx, rfl, hgx, hrx⟩ := rowE_of_own hox (by omega) hwx
      have hgx4 : gx < w4.heap.size := (hox.1.lt gx rfl).2
      have hs34 := hb4'.size
      clear hb4' hW3
      go_wp2_with fail
      refine (toActionS_any b _ cap' L _ (HA.out.below hb4) hsa).mono ?_; rintro e w5 ⟨vy, rfl, hoy, hwy, hb5'⟩
      have hb5 := hb4.trans (hb5'.mono hb4.size)
      have hW5 := hW4.below hb5'
      have hox5 := hox.below hb5'
      have hrx5 := hrx.below hb5'
      obtain ⟨gy, cy, rfl, hgy, hgy5, hry, hlcy⟩ := rowA_of_own hoy (by omega) hwy
      have hs45 := hb5'.size
      clear hb5' hW4 hox hrx
      go_wp2_with fail
      refine (runSerial_impl _ _ cx S _ _ cy L _ hrx5 (fun h => by cases h) hry).mono ?_; rintro e w6 ⟨vG, uG, rfl, hG6, hb6'⟩
      rw [← HP.out, ← HX.out] at hG6
      obtain ⟨aG, cG, rfl, -, -⟩ := hG6.row (by omega)
      obtain ⟨bG, dG, rfl, -, -, -⟩ := rowFs_of_own hG6.effs
      have hb6 := hb5.trans (hb6'.mono hb5.size)
      have hW6 := hW5.below hb6'
      have hox6 := hox5.below hb6'
      have hoy6 := hoy.below hb6'
      have hs56 := hb6'.size
      clear hb6' hW5 hox5 hoy hrx5 hry
      have hP4 : P.length ≤ 4000000 := by omega
      obtain ⟨r1, r2⟩ := hG6.reads hP4
      obtain ⟨q1, q2⟩ := hW6.reads hP4
      go_wp2_with fail
      refine (eqEntryS_same _ _ _ cG cW P _ r1 q1).mono ?_; rintro e w7 ⟨rfl, hb7'⟩
      have hb7 := hb6.trans (hb7'.mono hb6.size)
      have hW7 := hW6.below hb7'
      have hG7 := hG6.below hb7'
      have hox7 := hox6.below hb7'
      have hoy7 := hoy6.below hb7'
      clear r1 q1 q2 r2 hb7' hW6 hG6 hox6 hoy6 hb6
      go_wp2_with fail
      refine (eqEffectS_same _ _ _ dG dW X _ (hG7.reads hP4).2 (hW7.reads hP4).2).mono ?_; rintro e w8 ⟨rfl, hb8'⟩
      have hb8 := hb7.trans (hb8'.mono hb7.size)
      have hW8 := hW7.below hb8'
      have hG8 := hG7.below hb8'
      have hox8 := hox7.below hb8'
      have hoy8 := hoy7.below hb8'
      clear hb8' hW7 hG7 hox7 hoy7 hb7
      go_wp2_with fail
      refine (toEntryS_any a _ cap S _ (HS.out.below hb8) hse).mono ?_; rintro e w9 ⟨v9, rfl, ho9, hw9, hb9'⟩
      obtain ⟨g9, c9, rfl, -, hr9⟩ := rowE_of_own ho9 (by omega) hw9
      have hb9 := hb8.trans (hb9'.mono hb8.size)
      have hW9 := hW8.below hb9'
      have hG9 := hG8.below hb9'
      have hox9 := hox8.below hb9'
      have hoy9 := hoy8.below hb9'
      have hrx9 : RowE w9 (some ⟨gx, 0, none⟩) S.length S := rowE_owned hox9.1 rfl (by omega) hwx
      clear ho9 hb9' hW8 hG8 hox8 hoy8 hb8
      go_wp2_with fail
      refine (eqEntryS_same _ _ _ cx c9 S _ hrx9 hr9).mono ?_; rintro e w10 ⟨rfl, hb10'⟩
      have hb10 := hb9.trans (hb10'.mono hb9.size)
      have hW10 := hW9.below hb10'
      have hG10 := hG9.below hb10'
      have hox10 := hox9.below hb10'
      have hoy10 := hoy9.below hb10'
      clear hrx9 hr9 hb10' hW9 hG9 hox9 hoy9 hb9
      go_wp2_with fail
      refine (toActionS_any b _ cap' L _ (HA.out.below hb10) hsa).mono ?_; rintro e w11 ⟨v11, rfl, ho11, hw11, hb11'⟩
      obtain ⟨g11, c11, rfl, -, -, hr11, -⟩ := rowA_of_own ho11 (by omega) hw11
      have hb11 := hb10.trans (hb11'.mono hb10.size)
      have hW11 := hW10.below hb11'
      have hG11 := hG10.below hb11'
      have hox11 := hox10.below hb11'
      have hoy11 := hoy10.below hb11'
      obtain ⟨gy', cy', ey, -, -, hry11, -⟩ := rowA_of_own hoy11 (by omega) hwy
      simp only [Value.slice.injEq, true_and, Option.some.injEq, Addr.mk.injEq, and_true] at ey
      obtain ⟨rfl, rfl⟩ := ey
      clear ho11 hb11' hW10 hG10 hox10 hoy10 hb10
      go_wp2_with fail
      refine (eqActionS_same _ _ _ cy c11 L _ hry11 hr11).mono ?_; rintro e w12 ⟨rfl, hb12'⟩
      have hb12 := hb11.trans (hb12'.mono hb11.size)
      have hW12 := hW11.below hb12'
      have hG12 := hG11.below hb12'
      have hox12 := hox11.below hb12'
      have hoy12 := hoy11.below hb12'
      clear hry11 hr11 hb12' hW11 hG11 hox11 hoy11 hb11
      go_wp2_with fail
      refine (markEntryS_any _ gx _ cx S 1 _ hox12 rfl (by omega) (by omega) (by omega)).mono ?_; rintro e w13 ⟨rfl, -, hg13⟩
      have hws : w.heap.size ≤ w3.heap.size := hb3.size
      have hb13 : Below w.heap.size w w13 := hb12.grown hg13 hb12.size (fun k hk => by simp at hk; omega)
      have hW13 := hW12.grown1 hg13 (.inr (by omega))
      have hG13 := hG12.grown1 hg13 (.inl (by omega))
      have hoy13 := hoy12.grown hg13 (fun k hk => by simp at hk; omega)
      clear hg13 hW12 hG12 hox12 hoy12 hb12
      go_wp2_with fail
      refine (markActionS_own _ gy _ cy _ (1 + 2 * (S.length : Int)) _ hoy13.1 (by omega) (by omega) (by omega)).mono ?_; rintro e w14 ⟨rfl, hg14⟩
      have hb14 : Below w.heap.size w w14 := hb13.grown hg14 hb13.size (fun k hk => by simp at hk; omega)
      have hW14 := hW13.grown1 hg14 (.inr (by omega))
      have hG14 := hG13.grown1 hg14 (.inl (by omega))
      clear hg14 hW13 hG13 hoy13 hb13
      have hk14 : decide ((1 : Int) + 2 * (S.length : Int) + 4 * (L.length : Int) < 0) = false := by simp; omega
      go_wp2_with fail
      refine (eqEntryS_same _ _ _ cG cW P _ (hG14.reads hP4).1 (hW14.reads hP4).1).mono ?_; rintro e w15 ⟨rfl, hb15'⟩
      have hb15 := hb14.trans (hb15'.mono hb14.size)
      have hW15 := hW14.below hb15'
      have hG15 := hG14.below hb15'
      clear hb15' hW14 hG14 hb14
      go_wp2_with fail
      refine (eqEffectS_same _ _ _ dG dW X _ (hG15.reads hP4).2 (hW15.reads hP4).2).mono ?_; rintro e w16 ⟨rfl, hb16'⟩
      have hb16 := hb15.trans (hb16'.mono hb15.size)
      have hW16 := hW15.below hb16'
      have hG16 := hG15.below hb16'
      clear hb16' hW15 hG15 hb15
      have hQ16 := hG16.apartQ
      go_wp2_with fail
      refine (markEntryS_own _ _ _ P 1 _ hG16.1 rfl (by omega) (by omega) (by omega)).mono ?_; rintro e w17 ⟨rfl, hom, hg17⟩
      have hb17 : Below w.heap.size w w17 := hb16.grown hg17 hb16.size (fun k hk => by have := (hG16.1.lt k hk).1; omega)
      have hW17 := hW16.keep (w' := w17) (fun p hp h1 h2 => hg17.block p hp (fun e => by have := (hG16.1.lt p e.symm).1; omega))
      have hQ17 := hQ16.keep (w' := w17) (fun p hp h1 => hg17.block p hp (fun e => h1.1 e.symm))
      clear hg17 hW16 hQ16 hb16
      go_wp2_with fail
      refine (markEffectS_only _ _ _ _ X (1 + 2 * (P.length : Int)) _ hQ17 (by omega) (by omega) (by omega)).mono ?_; rintro e w18 ⟨rfl, hQ18, ht18⟩
      have hb18 : Below w.heap.size w w18 := ht18.below hb17 (fun p hp => by have := hp.2.1; omega) hb17.size
      have hW18 := hW17.keep (w' := w18) (fun p hp h1 h2 => ht18.block p hp (fun hq => by have := hq.2.1; omega))
      have hom18 := owns_keep (w' := w18) hom (fun p hp => by rw [owns_blk hom] at hp; exact ht18.block p (hom.lt p hp).2 (fun hq => hq.1 hp))
      have hrm : RowE w18 aG P.length (marksE 1 P.length) := rowE_marked hom18 hP4
      have hfm : RowFs w18 bG X.length (marksX (1 + 2 * (P.length : Int)) X) := hQ18.reads (marksX_len _ _)
      clear hQ17 hQ18 ht18 hW17 hom hom18 hb17 hG16
      obtain ⟨f, hf⟩ : ∃ f, f = offX X X.length := ⟨_, rfl⟩
      have HF := Lib.hid hf
      rw [← hf] at hXo ⊢
      clear hf
      have hq0 : decide ((1 : Int) + 2 * (P.length : Int) < 0) = false := by simp; omega
      have hq1 : decide ((1 : Int) + 2 * (P.length : Int) + (f : Int) < 0) = false := by simp; omega
      have hqm : ((1 : Int) + 2 * (P.length : Int) + (f : Int) != 1 + 2 * (P.length : Int) + (f : Int)) = false := by simp
      go_wp2_with fail
      refine (heldEntryS_any _ _ cG 1 _ hrm (by omega) (by omega) (by omega)).mono ?_; rintro e w' ⟨rfl, rfl⟩
      go_wp2_with fail
      refine (heldEffectS_any _ _ dG X (1 + 2 * (P.length : Int)) _ hfm rfl (by omega) (by omega) (by omega)).mono ?_; rintro e w' ⟨rfl, rfl⟩
      rw [← HF.out]
      go_wp2_with fail
      refine (toEntryS_any a _ cap S _ (HS.out.below hb18) hse).mono ?_; rintro e w19 ⟨v19, rfl, ho19, hw19, hb19'⟩
      obtain ⟨g19, c19, rfl, -, hr19⟩ := rowE_of_own ho19 (by omega) hw19
      have hb19 := hb18.trans (hb19'.mono hb18.size)
      have hW19 := hW18.below hb19'
      have hrm19 := hrm.below hb19'
      have hfm19 := hfm.below hb19'
      clear ho19 hb19' hW18 hrm hfm hb18
      go_wp2_with fail
      refine (toActionS_any b _ cap' L _ (HA.out.below hb19) hsa).mono ?_; rintro e w20 ⟨v20, rfl, ho20, hw20, hb20'⟩
      obtain ⟨g20, c20, rfl, -, -, hra20, -⟩ := rowA_of_own ho20 (by omega) hw20
      have hb20 := hb19.trans (hb20'.mono hb19.size)
      have hr20 := hr19.below hb20'
      have hW20 := hW19.below hb20'
      have hrm20 := hrm19.below hb20'
      have hfm20 := hfm19.below hb20'
      clear ho20 hb20' hW19 hrm19 hfm19 hr19 hb19
      go_wp2_with fail
      refine (runSerial_impl _ _ c19 S _ _ c20 L _ hr20 (fun h => by cases h) hra20).mono ?_; rintro e w21 ⟨vH, uH, rfl, hH21, hb21'⟩
      rw [← HP.out, ← HX.out] at hH21
      obtain ⟨aH, cH, rfl, -, -⟩ := hH21.row hP4
      obtain ⟨bH, dH, rfl, -, -, -⟩ := rowFs_of_own hH21.effs
      have hb21 := hb20.trans (hb21'.mono hb20.size)
      have hW21 := hW20.below hb21'
      have hrm21 := hrm20.below hb21'
      have hfm21 := hfm20.below hb21'
      clear hb21' hW20 hrm20 hfm20 hr20 hra20 hb20
      go_wp2_with fail
      refine (eqEntryS_same _ _ _ cH cW P _ (hH21.reads hP4).1 (hW21.reads hP4).1).mono ?_; rintro e w22 ⟨rfl, hb22'⟩
      have hb22 := hb21.trans (hb22'.mono hb21.size)
      have hW22 := hW21.below hb22'
      have hH22 := hH21.below hb22'
      have hrm22 := hrm21.below hb22'
      have hfm22 := hfm21.below hb22'
      clear hb22' hW21 hH21 hrm21 hfm21 hb21
      go_wp2_with fail
      refine (eqEffectS_same _ _ _ dH dW X _ (hH22.reads hP4).2 (hW22.reads hP4).2).mono ?_; rintro e w23 ⟨rfl, hb23'⟩
      have hb23 := hb22.trans (hb23'.mono hb22.size)
      have hrm23 := hrm22.below hb23'
      have hfm23 := hfm22.below hb23'
      clear hb23' hW22 hH22 hrm22 hfm22 hb22
      go_wp2_with fail
      refine (heldEntryS_any _ _ cG 1 _ hrm23 (by omega) (by omega) (by omega)).mono ?_; rintro e w' ⟨rfl, rfl⟩
      go_wp2_with fail
      refine (heldEffectS_any _ _ dG X (1 + 2 * (P.length : Int)) _ hfm23 rfl (by omega) (by omega) (by omega)).mono ?_; rintro e w' ⟨rfl, rfl⟩
      rw [← HF.out]
      go_wp2
      go_ret
      exact ⟨rfl, hb23⟩
    · rw [if_neg hs]
      go_wp2
      go_ret
      exact ⟨rfl, Below.refl _ _⟩
  · rw [if_neg hn]
    go_wp2
    go_ret
    exact ⟨rfl, Below.refl _ _⟩
end Go.Proofs.Ytpnahncmhldgdaa

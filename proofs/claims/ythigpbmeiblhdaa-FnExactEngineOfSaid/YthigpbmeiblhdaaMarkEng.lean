/- The contracts of the laws' own helpers markSlotS and markEngine. -/
import Derived.Test.YthigpbmeiblhdaaConvEng6
import Derived.Deep.Cut
namespace Go.Proofs.Ythigpbmeiblhdaa
open Go.RowKit
set_option linter.unusedVariables false
set_option linter.unusedSimpArgs false
/-- A row among the others is written by itself. -/
theorem OwnR.mark {w w' : World} {B T : Nat} {R1 R2 : List Rw} {r r' : Rw} (h : OwnR w B T (R1 ++ r :: R2)) (ho : w'.ownsRow B r'.e r'.size r'.v r'.n r'.cs) (hv : r'.v = r.v) (hg : w.grownBy w' r.v.ownBlock) : OwnR w' B T (R1 ++ r' :: R2) :=
  ((h.perm List.perm_middle).grow ho hg (.inl (by rw [hv])) (Nat.le_refl _) (.inr (by rw [hv]))).perm List.perm_middle.symm
theorem OwnR.turnOf {w w' : World} {B T : Nat} {R : List Rw} {r : Rw} (h : OwnR w B T R) (hr : r ∈ R) (hg : w.grownBy w' r.v.ownBlock) : Turn B T w w' :=
  Turn.ofGrown hg fun k hk => by have := h.ge hr (b := k) (by rw [owns_blk (h.own r hr)]; exact hk); exact ⟨this.1, this.2.1⟩
/-- The same for actions, where the row may be nil. -/
theorem markActionS_ow (B n : Nat) (v : Value) (l : List Acn) (k : Int) (w : World) (h : w.ownsRow B 49 4 v n (flatA l)) (hl : l.length = n) (hn : n ≤ 4000000) (hk0 : 0 ≤ k) (hk1 : k ≤ 100000000) :
    Calls Try.prog 14 #[v, .int .i64 k] w fun e w' => e = .returned (.int .i64 (k + 4 * n)) ∧ w'.ownsRow B 49 4 v n (flatA (marksA k n)) ∧ w.grownBy w' v.ownBlock := by
  by_cases hv : v = .slice none 0 0
  · have h0 : n = 0 := by
      rcases h.2 with ⟨_, h1⟩ | ⟨g, cap, cur, h1, _⟩
      · exact h1
      · rw [hv] at h1; simp at h1
    subst h0; subst hv
    have HO := Lib.hid (World.ownsRow_nil w B 49 4)
    clear h hl
    go_enter Try.func14, Try.ntmps14
    go_wp2
    go_loop [1, 5] (fun q i => q = .int .i64 k ∧ i = .int .i64 0) (fun _ _ => 0)
    case atStart => exact ⟨rfl, rfl⟩
    case round =>
      obtain ⟨rfl, rfl⟩ := hrel
      go_wp2
      go_ret
      exact ⟨ret_int (by simp), HO.out, World.grownBy.refl _ _⟩
  · obtain ⟨g, cap, rfl, _, _⟩ := Own.slice ⟨h, hv⟩
    exact (markActionS_any B g n cap l k w ⟨h, hv⟩ hl hn hk0 hk1).mono fun e w' ⟨h1, h2, h3⟩ => ⟨h1, h2.1, h3⟩
theorem wfA_marks (k : Int) (n : Nat) (h0 : 0 ≤ k) (h1 : k ≤ 100000000) (hn : n ≤ 4000000) : WfAs (marksA k n) := by
  intro e he
  obtain ⟨i, hi, rfl⟩ := List.mem_map.1 he
  have := List.mem_range.1 hi
  exact ⟨WalkArith.wf_i64 (by simp only; omega), WalkArith.wf_i64 (by simp only; omega), WalkArith.wf_i64 (by simp only; omega), WalkArith.wf_i64 (by simp only; omega)⟩
/-! One slot among the others. -/
theorem sl_split {L : List Slt} {ts : List (Value × Value × Value)} (hl : ts.length = L.length) {j : Nat} (hj : j < L.length) (s' : Slt) :
    (L.set j s').zip ts = (L.take j).zip (ts.take j) ++ (s', ts.getD j (undef, undef, undef)) :: (L.drop (j + 1)).zip (ts.drop (j + 1)) := by
  have e1 : L.set j s' = L.take j ++ s' :: L.drop (j + 1) := by rw [List.set_eq_take_append_cons_drop, if_pos hj]
  have e2 : ts = ts.take j ++ ts.getD j (undef, undef, undef) :: ts.drop (j + 1) := by
    rw [List.getD_eq_getElem?_getD, List.getElem?_eq_getElem (by omega), Option.getD_some, ← List.drop_eq_getElem_cons (by omega), List.take_append_drop]
  rw [e1]
  conv => lhs; rw [e2]
  rw [List.zip_append (by simp; omega), List.zip_cons_cons]
theorem set_getD_self {L : List Slt} {j : Nat} (hj : j < L.length) : L.set j (L.getD j noSlt) = L := by
  rw [List.getD_eq_getElem?_getD, List.getElem?_eq_getElem hj]; simp
def rsB (tI tE : TypeId) (L : List Slt) (ts : List (Value × Value × Value)) (j : Nat) : List Rw := ((L.take j).zip (ts.take j)).flatMap fun p => slRs tI tE p.1 p.2
def rsA (tI tE : TypeId) (L : List Slt) (ts : List (Value × Value × Value)) (j : Nat) : List Rw := ((L.drop (j + 1)).zip (ts.drop (j + 1))).flatMap fun p => slRs tI tE p.1 p.2
theorem slsRs_set {tI tE : TypeId} {L : List Slt} {ts : List (Value × Value × Value)} (hl : ts.length = L.length) {j : Nat} (hj : j < L.length) (s' : Slt) :
    slsRs tI tE (L.set j s') ts = rsB tI tE L ts j ++ (slRs tI tE s' (ts.getD j (undef, undef, undef)) ++ rsA tI tE L ts j) := by
  unfold slsRs rsB rsA
  rw [sl_split hl hj, List.flatMap_append, List.flatMap_cons]
theorem slsRs_at {tI tE : TypeId} {L : List Slt} {ts : List (Value × Value × Value)} (hl : ts.length = L.length) {j : Nat} (hj : j < L.length) :
    slsRs tI tE L ts = rsB tI tE L ts j ++ (slRs tI tE (L.getD j noSlt) (ts.getD j (undef, undef, undef)) ++ rsA tI tE L ts j) := by
  have := slsRs_set (tI := tI) (tE := tE) hl hj (L.getD j noSlt)
  rwa [set_getD_self hj] at this
theorem zip_set {L : List Slt} {ts : List (Value × Value × Value)} (hl : ts.length = L.length) {j : Nat} (hj : j < L.length) (s' : Slt) : (L.zip ts).set j (s', ts.getD j (undef, undef, undef)) = (L.set j s').zip ts := by
  apply List.ext_getElem?
  intro i
  rw [List.getElem?_set]
  by_cases e : j = i
  · subst e
    rw [if_pos rfl, if_pos (by simp; omega), zip_get (by simpa using hl) (by simpa using hj)]
    congr 2
    rw [List.getD_eq_getElem?_getD, List.getElem?_set_self hj]; rfl
  · rw [if_neg e]
    by_cases hi : i < L.length
    · rw [zip_get hl hi, zip_get (by simpa using hl) (by simpa using hi)]
      congr 2
      rw [List.getD_eq_getElem?_getD, List.getD_eq_getElem?_getD, List.getElem?_set_ne e]
    · rw [List.getElem?_eq_none (by simp; omega), List.getElem?_eq_none (by simp; omega)]
theorem slsCs_set {L : List Slt} {ts : List (Value × Value × Value)} (hl : ts.length = L.length) {j : Nat} (hj : j < L.length) (s' : Slt) (i : Nat) (hi : i < 6) (c : Value)
    (h : slCs s' (ts.getD j (undef, undef, undef)) = (slCs (L.getD j noSlt) (ts.getD j (undef, undef, undef))).set i c) : (slsCs L ts).set (j * 6 + i) c = slsCs (L.set j s') ts := by
  unfold slsCs
  rw [← zip_set hl hj]
  exact (flatMap_set (fun p : Slt × (Value × Value × Value) => slCs p.1 p.2) 6 (fun _ => rfl) (L.zip ts) j i _ _ c (zip_get hl hj) hi h).symm
theorem getD_setM (L : List Slt) (j : Nat) (x : Slt) (h : j < L.length) : (L.set j x).getD j noSlt = x := by
  rw [List.getD_eq_getElem?_getD, List.getElem?_set_self h]; rfl
/-- What markSlotS leaves. -/
def MarkedSl (w : World) (B T : Nat) (v : Value) (k : Int) (L : List Slt) (ts : List (Value × Value × Value)) (R : List Rw) (e : Ending) (w' : World) : Prop :=
  e = .returned (.int .i64 (k + (offSl L L.length : Nat))) ∧ OwnR w' B T (⟨v, 71, 6, L.length, slsCs (marksSl k L) ts⟩ :: (slsRs 3 45 (marksSl k L) ts ++ R)) ∧ Turn B T w w'
theorem mkN_le (L : List Slt) {j : Nat} (hj : j < L.length) : mkN (L.getD j noSlt) ≤ 3 * wtSl L + 3 := by
  have := sumSl_len L j hj
  have e : L.getD j noSlt = L[j] := by rw [List.getD_eq_getElem?_getD, List.getElem?_eq_getElem hj]; rfl
  unfold wtSl
  rw [e] at this ⊢
  unfold wtS at this
  unfold mkN
  omega
set_option maxRecDepth 100000 in
set_option maxHeartbeats 4000000 in
theorem markSlotS_own (B T : Nat) (v : Value) (L : List Slt) (ts : List (Value × Value × Value)) (R : List Rw) (k : Int) (w : World) (hl : ts.length = L.length) (h : OwnR w B T (⟨v, 71, 6, L.length, slsCs L ts⟩ :: (slsRs 3 45 L ts ++ R))) (hw : wtSl L ≤ 2000000) (hk0 : 0 ≤ k) (hk1 : k ≤ 10000000) :
    Calls Try.prog 30 #[v, .int .i64 k] w (MarkedSl w B T v k L ts R) := by
  have hlen : L.length ≤ 2000000 := by unfold wtSl at hw; omega
  rcases slice_of_owns h.head with ⟨hv, hn⟩ | ⟨g, cap, hv, hBg, hgw, hnc, hcm⟩
  · simp only at hv hn
    have hL : L = [] := List.eq_nil_of_length_eq_zero hn
    subst hv hL
    have HO := Lib.hid h
    clear h hl hn
    go_enter Try.func30, Try.ntmps30
    go_wp2
    go_loop [1, 5] (fun q i => q = .int .i64 k ∧ i = .int .i64 0) (fun _ _ => 0)
    case atStart => exact ⟨rfl, rfl⟩
    case round =>
      obtain ⟨rfl, rfl⟩ := hrel
      go_wp2
      go_ret
      exact ⟨ret_int (by simp [offSl, sumMk]), HO.out, Turn.refl _ _ _⟩
  · simp only at hv
    subst hv
    obtain ⟨n, hn⟩ : ∃ n, n = L.length := ⟨_, rfl⟩
    have hgT : g < T := h.lt _ List.mem_cons_self g rfl
    have hm0 : OwnR w B T (⟨.slice (some ⟨g, 0, none⟩) n cap, 71, 6, n, slsCs (markSlTo k L 0) ts⟩ :: (slsRs 3 45 (markSlTo k L 0) ts ++ R)) := by rw [markSlTo_zero, hn]; exact h
    have HN := Lib.hid hn.symm
    have HTL := Lib.hid hl
    have HOF := Lib.hid (fun j => offSl_le L j)
    have HMK := Lib.hid (fun j (hj : j < n) => mkN_le L (j := j) (by rw [← hn]; exact hj))
    rw [← hn] at hlen hnc ⊢
    clear h hl hn
    go_enter Try.func30, Try.ntmps30
    go_wp2
    go_loopw [1, 5] (fun q i wr => ∃ j : Nat, j ≤ n ∧ i = .int .i64 j ∧ q = .int .i64 (k + (offSl L j : Nat)) ∧ OwnR wr B T (⟨.slice (some ⟨g, 0, none⟩) n cap, 71, 6, n, slsCs (markSlTo k L j) ts⟩ :: (slsRs 3 45 (markSlTo k L j) ts ++ R)) ∧ Turn B T w wr) (fun _ i _ => n - (intOf i).toNat)
    case atStart => exact ⟨0, Nat.zero_le _, rfl, by simp [offSl, sumMk], hm0, Turn.refl _ _ _⟩
    case round =>
      clear hm0
      obtain ⟨j, hj, rfl, rfl, hO, ht⟩ := hrel
      by_cases hlt : j < n
      · have hjL : j < L.length := by rw [HN.out]; exact hlt
        have hjM : j < (markSlTo k L j).length := by rw [markSlTo_len k L j (by omega)]; exact hjL
        have htM : ts.length = (markSlTo k L j).length := by rw [markSlTo_len k L j (by omega)]; exact HTL.out
        have hof := HOF.out j
        have hmk := HMK.out j hlt
        have HNX := Lib.hid (offSl_next L j hjL)
        have HST := Lib.hid (markSlTo_set k L j hjL)
        have hget := markSlTo_get k L j hjL
        obtain ⟨M, hM⟩ : ∃ M, M = markSlTo k L j := ⟨_, rfl⟩
        rw [← hM] at hjM htM HST hget hO
        have HMN : Hid (M.length = n) := Lib.hid (by rw [hM, markSlTo_len k L j (by omega), HN.out])
        clear hM
        obtain ⟨q, hq⟩ : ∃ q, q = offSl L j := ⟨_, rfl⟩
        rw [← hq] at hof HNX HST ⊢
        have HSW : Hid ((L.getD j noSlt).from_.length + (L.getD j noSlt).res.rds.length + (L.getD j noSlt).res.wrs.length ≤ 2000000) := Lib.hid (by have := sumSl_len L j hjL; unfold wtSl at hw; unfold wtS at this; omega)
        obtain ⟨s, hs⟩ : ∃ s, s = L.getD j noSlt := ⟨_, rfl⟩
        rw [← hs] at hmk HNX HST hget HSW
        clear hq hs hjL
        have hMK : markOfS (k + (q : Nat)) s = ⟨k + q, k + q + 1, marksI (k + q + 1 + 1) s.from_.length, ⟨mk3 (k + q + 1 + 1 + s.from_.length), marksE (k + q + 1 + 1 + s.from_.length + 1) s.res.rds.length, marksE (k + q + 1 + 1 + s.from_.length + 1 + 2 * s.res.rds.length) s.res.wrs.length⟩⟩ := by
          unfold markOfS
          rw [show k + (q : Int) + 2 = k + (q : Int) + 1 + 1 by omega, show k + (q : Int) + 3 + (s.from_.length : Int) = k + (q : Int) + 1 + 1 + (s.from_.length : Int) + 1 by omega]
        rw [hMK] at HST
        have hmN : mkN s = 3 + s.from_.length + 2 * (s.res.rds.length + s.res.wrs.length) := rfl
        rw [hmN] at hmk HNX
        obtain ⟨x, y, z, hxyz⟩ : ∃ x y z, ts.getD j (undef, undef, undef) = (x, y, z) := ⟨_, _, _, rfl⟩
        have hsp := slsRs_at (tI := 3) (tE := 45) htM hjM
        have HSP := Lib.hid (fun s' => slsRs_set (tI := 3) (tE := 45) htM hjM s')
        rw [hget, hxyz] at hsp
        rw [hxyz] at HSP
        obtain ⟨PB, hPB⟩ : ∃ P, P = rsB 3 45 M ts j := ⟨_, rfl⟩
        obtain ⟨PA, hPA⟩ : ∃ P, P = rsA 3 45 M ts j := ⟨_, rfl⟩
        rw [← hPB, ← hPA] at hsp HSP
        clear hPB hPA
        have HC1 := Lib.hid (slsCs_set htM hjM ⟨k + q, s.tries, s.from_, s.res⟩ 0 (by omega) (.int .i64 (k + q)) (by rw [hget]; rfl))
        have HC2 := Lib.hid (slsCs_set (L := M.set j ⟨k + q, s.tries, s.from_, s.res⟩) (ts := ts) (by rw [List.length_set]; exact htM) (j := j) (by rw [List.length_set]; exact hjM) ⟨k + q, k + q + 1, s.from_, s.res⟩ 1 (by omega) (.int .i64 (k + q + 1)) (by rw [getD_setM _ _ _ hjM]; rfl))
        obtain ⟨db, hdb⟩ : ∃ db, db = mk3 (k + q + 1 + 1 + s.from_.length) := ⟨_, rfl⟩
        rw [← hdb] at HST hMK
        obtain ⟨mf, hmf⟩ : ∃ m : Slt, m = ⟨k + q, k + q + 1, marksI (k + q + 1 + 1) s.from_.length, ⟨db, marksE (k + q + 1 + 1 + s.from_.length + 1) s.res.rds.length, marksE (k + q + 1 + 1 + s.from_.length + 1 + 2 * s.res.rds.length) s.res.wrs.length⟩⟩ := ⟨_, rfl⟩
        rw [← hmf] at HST
        have HC3 := Lib.hid (slsCs_set (L := M.set j ⟨k + q, k + q + 1, s.from_, s.res⟩) (ts := ts) (by rw [List.length_set]; exact htM) (j := j) (by rw [List.length_set]; exact hjM) mf 3 (by omega) (.bool db) (by rw [getD_setM _ _ _ hjM, hmf]; rfl))
        rw [List.set_set] at HC2
        rw [List.set_set] at HC3
        have hcells : ∀ (s' : Slt), slCs s' (x, y, z) = [.int .i64 s'.stage, .int .i64 s'.tries, x, .bool s'.res.done, y, z] := fun _ => rfl
        have HGC : Hid (∀ (s' : Slt) (i : Nat), i < 6 → (slsCs (M.set j s') ts)[j * 6 + i]? = [.int .i64 s'.stage, .int .i64 s'.tries, x, .bool s'.res.done, y, z][i]?) := Lib.hid (fun s' i hi => by
          rw [slsCs_get (L := M.set j s') (ts := ts) (by rw [List.length_set]; exact htM) (by rw [List.length_set]; exact hjM) hi, getD_setM _ _ _ hjM, hxyz]; rfl)
        have HG0 : Hid (∀ (i : Nat), i < 6 → (slsCs M ts)[j * 6 + i]? = [.int .i64 s.stage, .int .i64 s.tries, x, .bool s.res.done, y, z][i]?) := Lib.hid (fun i hi => by
          rw [slsCs_get htM hjM hi, hget, hxyz]; rfl)
        rw [hsp, List.append_assoc] at hO
        have hO0 : OwnR wr B T (⟨.slice (some ⟨g, 0, none⟩) n cap, 71, 6, n, slsCs M ts⟩ :: (PB ++ (⟨x, 3, 1, s.from_.length, s.from_.map (Value.int .i64)⟩ :: ⟨y, 45, 2, s.res.rds.length, flatE s.res.rds⟩ :: ⟨z, 45, 2, s.res.wrs.length, flatE s.res.wrs⟩ :: (PA ++ R)))) := by simpa [slRs] using hO
        have hi6 : ∀ i, i < 6 → j * 6 + i < n * 6 := fun i hi => by omega
        -- the stage
        have c0 := (hO0.head.cellAt (j * 6 + 0) (hi6 0 (by omega))).trans (HG0.out 0 (by omega))
        have f0 := hO0.head.frozenAt (j * 6)
        have c1 := (hO0.head.cellAt (j * 6 + 1) (hi6 1 (by omega))).trans (HG0.out 1 (by omega))
        have f1 := hO0.head.frozenAt (j * 6 + 1)
        simp only [Nat.add_zero, List.getElem?_cons_zero, List.getElem?_cons_succ] at c0 c1
        have hO1 := hO0.store (j * 6) (.int .i64 (k + q))
        rw [show (slsCs M ts).set (j * 6) (.int .i64 (k + q)) = _ from HC1.out] at hO1
        have ht1 := ht.setCell ⟨hBg, hgT⟩ (j * 6) (.int .i64 (k + q))
        have hq1 : 0 ≤ k + (q : Int) ∧ k + (q : Int) ≤ 20000000 := by omega
        obtain ⟨hq1, hq2⟩ := hq1
        clear hO hO0 ht hsp hcells hget
        go_upto_region 5 with (fail)
        generalize hw1 : World.setCell wr _ _ = w1
        have hw1' : wr.setCell ⟨g, j * 6, none⟩ (.int .i64 (k + q)) = w1 := hw1
        rw [hw1'] at hO1 ht1
        have c1 := (hO1.head.cellAt (j * 6 + 1) (hi6 1 (by omega))).trans (HGC.out _ 1 (by omega))
        have f1 := hO1.head.frozenAt (j * 6 + 1)
        simp only [List.getElem?_cons_zero, List.getElem?_cons_succ] at c1
        clear hw1 hw1' c0 f0
        -- the tries
        have hO2 := hO1.store (j * 6 + 1) (.int .i64 (k + q + 1))
        rw [HC2.out] at hO2
        have ht2 := ht1.setCell ⟨hBg, hgT⟩ (j * 6 + 1) (.int .i64 (k + q + 1))
        clear hO1 ht1
        go_upto_region 7 with (fail)
        generalize hw2 : World.setCell w1 _ _ = w2
        have hw2' : w1.setCell ⟨g, j * 6 + 1, none⟩ (.int .i64 (k + q + 1)) = w2 := hw2
        rw [hw2'] at hO2 ht2
        have c2 := (hO2.head.cellAt (j * 6 + 2) (hi6 2 (by omega))).trans (HGC.out _ 2 (by omega))
        simp only [List.getElem?_cons_zero, List.getElem?_cons_succ] at c2
        clear hw2 hw2' c1 f1
        have HOX := Lib.hid (hO2.own ⟨x, 3, 1, s.from_.length, s.from_.map (Value.int .i64)⟩ (by simp))
        -- the writers
        obtain ⟨nf, hnf⟩ : ∃ m, m = s.from_.length := ⟨_, rfl⟩
        obtain ⟨nr, hnr⟩ : ∃ m, m = s.res.rds.length := ⟨_, rfl⟩
        obtain ⟨nw, hnw⟩ : ∃ m, m = s.res.wrs.length := ⟨_, rfl⟩
        have HLF := Lib.hid hnf.symm
        have HLR := Lib.hid hnr.symm
        have HLW := Lib.hid hnw.symm
        rw [← hnf] at hmf hmk HNX hO2 HOX hdb
        rw [← hnr] at hmf hmk HNX hO2
        rw [← hnw] at hmf hmk HNX hO2
        clear hnf hnr hnw hMK
        have hkq : 0 ≤ k + (q : Int) + 1 + 1 + (nf : Int) := by omega
        have t3 := tmod3 hkq
        have m1 : ((k + (q : Int) + 1 + 1 + (nf : Int)) % 3 == 0) = db := by rw [hdb]; rfl
        have m2 : ((k + (q : Int) + 1 + 1 + (nf : Int)).tmod 3 == 0) = db := by rw [t3]; exact m1
        have hbnd : nf ≤ 4000000 ∧ nr ≤ 4000000 ∧ nw ≤ 4000000 := by
          have := HSW.out; rw [HLF.out, HLR.out, HLW.out] at this; omega
        obtain ⟨hb1, hb2, hb3⟩ := hbnd
        clear t3 hdb
        go_wp2_with fail
        refine (markIntS_own B nf x s.from_ _ _ HOX.out HLF.out (by omega) (by omega) (by omega)).mono ?_; rintro e w3 ⟨rfl, ho3, hg3⟩
        have ht3 := ht2.trans (hO2.turnOf (r := ⟨x, 3, 1, nf, s.from_.map (Value.int .i64)⟩) (by simp) hg3)
        have hO3 : OwnR w3 B T (⟨.slice (some ⟨g, 0, none⟩) n cap, 71, 6, n, slsCs (M.set j ⟨k + q, k + q + 1, s.from_, s.res⟩) ts⟩ :: (PB ++ (⟨x, 3, 1, nf, (marksI (k + q + 1 + 1) nf).map (Value.int .i64)⟩ :: ⟨y, 45, 2, nr, flatE s.res.rds⟩ :: ⟨z, 45, 2, nw, flatE s.res.wrs⟩ :: (PA ++ R)))) := by
          have := OwnR.mark (R1 := ⟨.slice (some ⟨g, 0, none⟩) n cap, 71, 6, n, slsCs (M.set j ⟨k + q, k + q + 1, s.from_, s.res⟩) ts⟩ :: PB) (r := ⟨x, 3, 1, nf, s.from_.map (Value.int .i64)⟩) (r' := ⟨x, 3, 1, nf, (marksI (k + q + 1 + 1) nf).map (Value.int .i64)⟩) (by simpa using hO2) ho3 rfl hg3
          simpa using this
        have c3 := (hO3.head.cellAt (j * 6 + 3) (hi6 3 (by omega))).trans (HGC.out _ 3 (by omega))
        have f3 := hO3.head.frozenAt (j * 6 + 3)
        simp only [List.getElem?_cons_zero, List.getElem?_cons_succ] at c3
        clear hO2 ht2 ho3 hg3 c2 HOX
        -- done
        have hO4 := hO3.store (j * 6 + 3) (.bool db)
        rw [HC3.out] at hO4
        have ht4 := ht3.setCell ⟨hBg, hgT⟩ (j * 6 + 3) (.bool db)
        clear hO3 ht3
        go_upto_region 10 with (fail)
        generalize hw4 : World.setCell w3 _ _ = w4
        have hw4' : w3.setCell ⟨g, j * 6 + 3, none⟩ (.bool db) = w4 := hw4
        rw [hw4'] at hO4 ht4
        have hst4 : mf.stage = k + q ∧ mf.tries = k + q + 1 ∧ mf.res.done = db := by rw [hmf]; exact ⟨rfl, rfl, rfl⟩
        have c4 := (hO4.head.cellAt (j * 6 + 4) (hi6 4 (by omega))).trans (HGC.out _ 4 (by omega))
        simp only [List.getElem?_cons_zero, List.getElem?_cons_succ] at c4
        have HOY := Lib.hid (hO4.own ⟨y, 45, 2, nr, flatE s.res.rds⟩ (by simp))
        clear hw4 hw4' c3 f3 m1 m2 hst4
        go_wp2_with fail
        refine (markEntryS_own B nr y s.res.rds _ _ HOY.out HLR.out (by omega) (by omega) (by omega)).mono ?_; rintro e w5 ⟨rfl, ho5, hg5⟩
        have ht5 := ht4.trans (hO4.turnOf (r := ⟨y, 45, 2, nr, flatE s.res.rds⟩) (by simp) hg5)
        have hO5 : OwnR w5 B T (⟨.slice (some ⟨g, 0, none⟩) n cap, 71, 6, n, slsCs (M.set j mf) ts⟩ :: (PB ++ (⟨x, 3, 1, nf, (marksI (k + q + 1 + 1) nf).map (Value.int .i64)⟩ :: ⟨y, 45, 2, nr, flatE (marksE (k + q + 1 + 1 + nf + 1) nr)⟩ :: ⟨z, 45, 2, nw, flatE s.res.wrs⟩ :: (PA ++ R)))) := by
          have := OwnR.mark (R1 := ⟨.slice (some ⟨g, 0, none⟩) n cap, 71, 6, n, slsCs (M.set j mf) ts⟩ :: (PB ++ [⟨x, 3, 1, nf, (marksI (k + q + 1 + 1) nf).map (Value.int .i64)⟩])) (r := ⟨y, 45, 2, nr, flatE s.res.rds⟩) (r' := ⟨y, 45, 2, nr, flatE (marksE (k + q + 1 + 1 + nf + 1) nr)⟩) (by simpa using hO4) ho5 rfl hg5
          simpa using this
        have c5 := (hO5.head.cellAt (j * 6 + 5) (hi6 5 (by omega))).trans (HGC.out _ 5 (by omega))
        simp only [List.getElem?_cons_zero, List.getElem?_cons_succ] at c5
        have HOZ := Lib.hid (hO5.own ⟨z, 45, 2, nw, flatE s.res.wrs⟩ (by simp))
        clear hO4 ht4 ho5 hg5 c4 HOY
        go_wp2_with fail
        refine (markEntryS_own B nw z s.res.wrs _ _ HOZ.out HLW.out (by omega) (by omega) (by omega)).mono ?_; rintro e w6 ⟨rfl, ho6, hg6⟩
        have ht6 := ht5.trans (hO5.turnOf (r := ⟨z, 45, 2, nw, flatE s.res.wrs⟩) (by simp) hg6)
        have hO6 : OwnR w6 B T (⟨.slice (some ⟨g, 0, none⟩) n cap, 71, 6, n, slsCs (M.set j mf) ts⟩ :: (slsRs 3 45 (M.set j mf) ts ++ R)) := by
          have := OwnR.mark (R1 := ⟨.slice (some ⟨g, 0, none⟩) n cap, 71, 6, n, slsCs (M.set j mf) ts⟩ :: (PB ++ [⟨x, 3, 1, nf, (marksI (k + q + 1 + 1) nf).map (Value.int .i64)⟩, ⟨y, 45, 2, nr, flatE (marksE (k + q + 1 + 1 + nf + 1) nr)⟩])) (r := ⟨z, 45, 2, nw, flatE s.res.wrs⟩) (r' := ⟨z, 45, 2, nw, flatE (marksE (k + q + 1 + 1 + nf + 1 + 2 * nr) nw)⟩) (by simpa using hO5) ho6 rfl hg6
          have e6 : slRs 3 45 mf (x, y, z) = [⟨x, 3, 1, nf, (marksI (k + q + 1 + 1) nf).map (Value.int .i64)⟩, ⟨y, 45, 2, nr, flatE (marksE (k + q + 1 + 1 + nf + 1) nr)⟩, ⟨z, 45, 2, nw, flatE (marksE (k + q + 1 + 1 + nf + 1 + 2 * nr) nw)⟩] := by
            rw [hmf]; simp [slRs, marksI_len, marksE_len]
          rw [HSP.out, e6]
          simpa using this
        rw [HST.out] at hO6
        have HO6 := Lib.hid hO6
        have HT6 := Lib.hid ht6
        have HQN : Hid (k + (q : Int) + 1 + 1 + (nf : Int) + 1 + 2 * (nr : Int) + 2 * (nw : Int) = k + (offSl L (j + 1) : Nat)) := Lib.hid (by rw [HNX.out]; omega)
        clear hO5 ht5 ho6 hg6 c5 HOZ hO6 ht6 HC1 HC2 HC3 HGC HG0 HSP HST
        go_wp2
        go_roundw
        case rel => exact ⟨j + 1, by omega, by go_num, by rw [← HQN.out], HO6.out, HT6.out⟩
        case measure => simp [intOf]; omega
      · obtain rfl : n = j := by omega
        have HE : Hid (markSlTo k L n = marksSl k L) := Lib.hid (by rw [← HN.out]; exact markSlTo_all k L)
        rw [HE.out] at hO
        have HO := Lib.hid hO
        have HT := Lib.hid ht
        clear hO ht HOF HMK
        go_wp2
        go_ret
        exact ⟨ret_int (by rw [HN.out]), by rw [HN.out]; exact HO.out, HT.out⟩
/-- The marks of an engine. -/
def markedEng (k : Int) (e : Eng) : Eng := ⟨marksE k e.base.length, marksA (k + 2 * e.base.length) e.list.length, marksV (k + 2 * e.base.length + 4 * e.list.length) e.vers.length, marksSl (k + 2 * e.base.length + 4 * e.list.length + 3 * e.vers.length) e.slots⟩
def mkEngN (e : Eng) : Nat := 2 * e.base.length + 4 * e.list.length + 3 * e.vers.length + offSl e.slots e.slots.length
theorem slWf_marked {k : Int} {L : List Slt} (hw : wtSl L ≤ 2000000) (h0 : 0 ≤ k) (h1 : k ≤ 10000000) : ∀ s ∈ marksSl k L, SlWf s := by
  intro s hs
  obtain ⟨j, hj, rfl⟩ := List.getElem_of_mem hs
  rw [marksSl_len] at hj
  have e1 : (marksSl k L)[j] = markOfS (k + offSl L j) (L.getD j noSlt) := by
    rw [← marksSl_get k L j hj, List.getD_eq_getElem?_getD, List.getElem?_eq_getElem (by rw [marksSl_len]; exact hj)]; rfl
  rw [e1]
  have h2 := offSl_le L j
  have h3 := sumSl_len L j hj
  unfold wtSl at hw h2
  unfold wtS at h3
  refine ⟨WalkArith.wf_i64 (by simp only [markOfS]; omega), WalkArith.wf_i64 (by simp only [markOfS]; omega), wf_marksI _ _ (by omega) (by omega) (by omega), wfE_marks _ _ (by omega) (by omega) (by omega), wfE_marks _ _ (by omega) (by omega) (by omega), ?_, ?_, ?_⟩
  · simp only [markOfS, marksI_len]; omega
  · simp only [markOfS, marksE_len]; omega
  · simp only [markOfS, marksE_len]; omega
theorem engWf_marked {k : Int} {e : Eng} (hw : wtEng e ≤ 1048576) (h0 : 0 ≤ k) (h1 : k ≤ 1000) : EngWf (markedEng k e) := by
  have hw' := hw
  unfold wtEng at hw
  have hs : e.slots.length ≤ wtSl e.slots := by unfold wtSl; omega
  refine ⟨wfE_marks _ _ (by omega) (by omega) (by omega), wfA_marks _ _ (by omega) (by omega) (by omega), wfV_marks _ _ (by omega) (by omega) (by omega), slWf_marked (by omega) (by omega) (by omega), ?_, ?_, ?_, ?_⟩
  · simp only [markedEng, marksE_len]; omega
  · simp only [markedEng, marksA_len]; omega
  · simp only [markedEng, marksV_len]; omega
  · simp only [markedEng, marksSl_len]; omega
set_option maxRecDepth 100000 in
set_option maxHeartbeats 4000000 in
theorem markEngine_any (B T : Nat) (v1 v2 v3 v4 : Value) (e : Eng) (ts : List (Value × Value × Value)) (k : Int) (w : World) (h : EngOwn w B T tEng v1 v2 v3 v4 e ts) (hw : wtEng e ≤ 1048576) (hk0 : 0 ≤ k) (hk1 : k ≤ 1000) (hT : T ≤ w.heap.size) :
    Calls Try.prog 15 #[.agg #[v1, v2, v3, v4], .int .i64 k] w fun en w' => en = .returned (.int .i64 (k + (mkEngN e : Nat))) ∧ EngOwn w' B T tEng v1 v2 v3 v4 (markedEng k e) ts ∧ Turn B T w w' := by
  have HWF := Lib.hid (engWf_marked hw hk0 hk1)
  obtain ⟨htl, ho, hwf⟩ := h
  have hrd : EngRd w v1 v2 v3 v4 e := EngOwn.rd ⟨htl, ho, hwf⟩
  obtain ⟨⟨a1, m1, c1, rfl, r1, -, -⟩, ⟨a2, m2, c2, rfl, r2, -, -⟩, ⟨a3, m3, c3, rfl, r3, -, -⟩, a4, m4, c4, rfl, r4, -, -⟩ := hrd
  have hm1 := r1.1
  have hm2 := r2.1
  have hm3 := r3.1
  have hm4 := r4.1
  have hwe := hw
  unfold wtEng at hwe
  have hwt : Turn B T w (w.alloc (.cells #[.slice a1 m1 c1, .slice a2 m2 c2, .slice a3 m3 c3, .slice a4 m4 c4] 31)) := (Turn.refl B T w).alloc _
  have hb0 := (Below.refl w.heap.size w).alloc (Nat.le_refl _) (.cells #[.slice a1 m1 c1, .slice a2 m2 c2, .slice a3 m3 c3, .slice a4 m4 c4] 31)
  have hg0 := egAt_new w 31 (.slice a1 m1 c1) (.slice a2 m2 c2) (.slice a3 m3 c3) (.slice a4 m4 c4)
  obtain ⟨W, hW⟩ : ∃ W, W = w.alloc (.cells #[.slice a1 m1 c1, .slice a2 m2 c2, .slice a3 m3 c3, .slice a4 m4 c4] 31) := ⟨_, rfl⟩
  rw [← hW] at hb0 hg0 hwt
  have HW := Lib.hid hW
  have ho1 := ho.below hb0
  have hzb : w.heap.size < W.heap.size := by rw [hW]; simp
  clear hW
  obtain ⟨n1, hn1⟩ : ∃ n, n = e.base.length := ⟨_, rfl⟩
  obtain ⟨n2, hn2⟩ : ∃ n, n = e.list.length := ⟨_, rfl⟩
  obtain ⟨n3, hn3⟩ : ∃ n, n = e.vers.length := ⟨_, rfl⟩
  have HE : Hid (markedEng k e = ⟨marksE k n1, marksA (k + 2 * n1) n2, marksV (k + 2 * n1 + 4 * n2) n3, marksSl (k + 2 * n1 + 4 * n2 + 3 * n3) e.slots⟩) := Lib.hid (by rw [hn1, hn2, hn3]; rfl)
  have HMN : Hid ((mkEngN e : Nat) = 2 * n1 + 4 * n2 + 3 * n3 + offSl e.slots e.slots.length) := Lib.hid (by rw [hn1, hn2, hn3]; rfl)
  have HN1 := Lib.hid hn1.symm
  have HN2 := Lib.hid hn2.symm
  have HN3 := Lib.hid hn3.symm
  have hws : wtSl e.slots ≤ 2000000 := by omega
  obtain ⟨rfl, rfl, rfl⟩ : m1 = n1 ∧ m2 = n2 ∧ m3 = n3 := by omega
  have ho1 : OwnR W B T (⟨.slice a1 m1 c1, 45, 2, m1, flatE e.base⟩ :: ⟨.slice a2 m2 c2, 49, 4, m2, flatA e.list⟩ :: ⟨.slice a3 m3 c3, 65, 3, m3, flatV e.vers⟩ :: ⟨.slice a4 m4 c4, 71, 6, e.slots.length, slsCs e.slots ts⟩ :: slsRs 3 45 e.slots ts) := by
    have := ho.below hb0
    unfold engRs at this
    rw [HN1.out, HN2.out, HN3.out] at this
    exact this
  rw [← hn1, ← hn2, ← hn3] at hwe
  have HTL := Lib.hid htl
  clear ho hwf r1 r2 r3 r4 hn1 hn2 hn3 htl hm1 hm2 hm3
  have hof := offSl_le e.slots e.slots.length
  obtain ⟨q0, q1, q2, q3, -, -, -, -⟩ := hg0
  go_enter Try.func15, Try.ntmps15
  go_upto_region 1 with (fail)
  rw [← HW.out]
  clear HW
  have HO1 := Lib.hid ho1
  clear ho1
  go_wp2_with fail
  refine (markEntryS_own B m1 (.slice a1 m1 c1) e.base k _ HO1.out.head HN1.out (by omega) (by omega) (by omega)).mono ?_; rintro e1 w2 ⟨rfl, ho2, hg2⟩
  have ht2 := HO1.out.turnOf (r := ⟨.slice a1 m1 c1, 45, 2, m1, flatE e.base⟩) List.mem_cons_self hg2
  have hk2 : w2.heap[w.heap.size]? = W.heap[w.heap.size]? := ht2.block _ hzb (by omega)
  have HO2 := Lib.hid (HO1.out.mark (R1 := []) (r' := ⟨.slice a1 m1 c1, 45, 2, m1, flatE (marksE k m1)⟩) ho2 rfl hg2)
  have HT2 := Lib.hid (hwt.trans ht2)
  have q1 := (World.cell?_of_block hk2).trans q1
  have q2 := (World.cell?_of_block hk2).trans q2
  have q3 := (World.cell?_of_block hk2).trans q3
  have hzb2 : w.heap.size < w2.heap.size := by have := ht2.size; omega
  simp only [List.nil_append] at HO2
  clear HO1 ho2 hg2 ht2 hk2 q0 hwt hzb
  go_wp2_with fail
  refine (markActionS_ow B m2 (.slice a2 m2 c2) e.list _ _ HO2.out.tail.head HN2.out (by omega) (by omega) (by omega)).mono ?_; rintro e1 w3 ⟨rfl, ho3, hg3⟩
  have ht3 := HO2.out.turnOf (r := ⟨.slice a2 m2 c2, 49, 4, m2, flatA e.list⟩) (by simp) hg3
  have hk3 : w3.heap[w.heap.size]? = w2.heap[w.heap.size]? := ht3.block _ hzb2 (by omega)
  have HO3 := Lib.hid (OwnR.mark (R1 := [⟨.slice a1 m1 c1, 45, 2, m1, flatE (marksE k m1)⟩]) (r' := ⟨.slice a2 m2 c2, 49, 4, m2, flatA (marksA (k + 2 * m1) m2)⟩) HO2.out ho3 rfl hg3)
  have HT3 := Lib.hid (HT2.out.trans ht3)
  have q2 := (World.cell?_of_block hk3).trans q2
  have q3 := (World.cell?_of_block hk3).trans q3
  have hzb3 : w.heap.size < w3.heap.size := by have := ht3.size; omega
  clear HO2 HT2 ho3 hg3 ht3 hk3 q1 hzb2
  go_wp2_with fail
  refine (markVersionS_own B m3 (.slice a3 m3 c3) e.vers _ _ HO3.out.tail.tail.head HN3.out (by omega) (by omega) (by omega)).mono ?_; rintro e1 w4 ⟨rfl, ho4, hg4⟩
  have ht4 := HO3.out.turnOf (r := ⟨.slice a3 m3 c3, 65, 3, m3, flatV e.vers⟩) (by simp) hg4
  have hk4 : w4.heap[w.heap.size]? = w3.heap[w.heap.size]? := ht4.block _ hzb3 (by omega)
  have HO4 := Lib.hid (OwnR.mark (R1 := [⟨.slice a1 m1 c1, 45, 2, m1, flatE (marksE k m1)⟩, ⟨.slice a2 m2 c2, 49, 4, m2, flatA (marksA (k + 2 * m1) m2)⟩]) (r' := ⟨.slice a3 m3 c3, 65, 3, m3, flatV (marksV (k + 2 * m1 + 4 * m2) m3)⟩) HO3.out ho4 rfl hg4)
  have HT4 := Lib.hid (HT3.out.trans ht4)
  have q3 := (World.cell?_of_block hk4).trans q3
  clear HO3 HT3 ho4 hg4 ht4 hk4 q2 hzb3
  have HP : Hid (OwnR w4 B T (⟨.slice a4 m4 c4, 71, 6, e.slots.length, slsCs e.slots ts⟩ :: (slsRs 3 45 e.slots ts ++ [⟨.slice a1 m1 c1, 45, 2, m1, flatE (marksE k m1)⟩, ⟨.slice a2 m2 c2, 49, 4, m2, flatA (marksA (k + 2 * m1) m2)⟩, ⟨.slice a3 m3 c3, 65, 3, m3, flatV (marksV (k + 2 * m1 + 4 * m2) m3)⟩]))) := Lib.hid (HO4.out.perm (by
    simp only [List.cons_append, List.nil_append]
    exact (List.perm_append_comm (l₁ := [_, _, _]) (l₂ := _ :: _)))) 
  clear HO4
  go_wp2_with fail
  refine (markSlotS_own B T (.slice a4 m4 c4) e.slots ts _ _ _ HTL.out HP.out hws (by omega) (by omega)).mono ?_; rintro e1 w5 ⟨rfl, ho5, ht5⟩
  have HO5 : Hid (OwnR w5 B T (engRs tEng (.slice a1 m1 c1) (.slice a2 m2 c2) (.slice a3 m3 c3) (.slice a4 m4 c4) (markedEng k e) ts)) := Lib.hid (by
    rw [HE.out]
    unfold engRs
    simp only [marksE_len, marksA_len, marksV_len, marksSl_len]
    exact ho5.perm (List.perm_append_comm (l₁ := _ :: _) (l₂ := [_, _, _])))
  have HT5 := Lib.hid (HT4.out.trans ht5)
  have HTS : Hid (ts.length = (markedEng k e).slots.length) := Lib.hid (by rw [HE.out]; simp only [marksSl_len]; exact HTL.out)
  clear HP ho5 ht5 HT4 q3
  obtain ⟨qq, hqq⟩ : ∃ q, q = offSl e.slots e.slots.length := ⟨_, rfl⟩
  rw [← hqq] at HMN hof ⊢
  clear hqq
  go_wp2
  go_ret
  exact ⟨ret_int (by rw [HMN.out]; omega), ⟨HTS.out, HO5.out, HWF.out⟩, HT5.out⟩
end Go.Proofs.Ythigpbmeiblhdaa

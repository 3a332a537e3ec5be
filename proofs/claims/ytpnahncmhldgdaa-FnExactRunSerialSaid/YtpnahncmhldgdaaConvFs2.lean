/- The contracts of the laws' own helpers over lists of effects: marks. -/
import Derived.Test.YtpnahncmhldgdaaConvFs
namespace Go.Proofs.Ytpnahncmhldgdaa
open Go.RowKit
set_option linter.unusedVariables false
/-- The mark of a bool. -/
def mk3 (k : Int) : Bool := (k % 3 == 0)
/-- The marks from k on. -/
def marksX : Int → List Eff → List Eff
  | _, [] => []
  | k, x :: r => ⟨mk3 k, marksE (k + 1) x.rds.length, marksE (k + 1 + 2 * x.rds.length) x.wrs.length⟩ :: marksX (k + 1 + 2 * (x.rds.length + x.wrs.length : Nat)) r
/-- How many marks there are ahead of the j-th effect. -/
def offX (L : List Eff) (j : Nat) : Nat := j + 2 * sumX (L.take j)
theorem marksX_append (k : Int) (l m : List Eff) : marksX k (l ++ m) = marksX k l ++ marksX (k + (l.length + 2 * sumX l : Nat)) m := by
  induction l generalizing k with
  | nil => simp [marksX, sumX]
  | cons a r ih =>
    simp only [List.cons_append, marksX, ih, sumX, List.length_cons]
    congr 3; omega
theorem marksX_len (k : Int) (L : List Eff) : (marksX k L).length = L.length := by
  induction L generalizing k with
  | nil => rfl
  | cons a r ih => simp [marksX, ih]
/-- The marks of one effect. -/
def markOf (k : Int) (x : Eff) : Eff := ⟨mk3 k, marksE (k + 1) x.rds.length, marksE (k + 1 + 2 * x.rds.length) x.wrs.length⟩
theorem marksX_next (k : Int) (L : List Eff) (j : Nat) (h : j < L.length) : marksX k (L.take (j + 1)) = marksX k (L.take j) ++ [markOf (k + offX L j) (L.getD j noEff)] := by
  rw [takeF_one L j h, marksX_append]
  have e : (L.take j).length = j := by rw [List.length_take]; omega
  rw [e]; rfl
theorem offX_next (L : List Eff) (j : Nat) (h : j < L.length) : offX L (j + 1) = offX L j + 1 + 2 * ((L.getD j noEff).rds.length + (L.getD j noEff).wrs.length) := by
  unfold offX; rw [sumX_next L j h]; omega
theorem marksX_get (k : Int) (L : List Eff) (j : Nat) (h : j < L.length) : (marksX k L).getD j noEff = markOf (k + offX L j) (L.getD j noEff) := by
  have e : (marksX k (L.take j)).length = j := by rw [marksX_len, List.length_take]; omega
  have hs := marksX_append k (L.take (j + 1)) (L.drop (j + 1))
  rw [List.take_append_drop, marksX_next k L j h] at hs
  rw [hs, List.getD_eq_getElem?_getD, List.append_assoc, List.getElem?_append_right (by rw [e]; exact Nat.le_refl _), e, Nat.sub_self]
  rfl
/-- Marked up to j, then as before. -/
def markXTo (k : Int) (L : List Eff) (j : Nat) : List Eff := marksX k (L.take j) ++ L.drop j
theorem markXTo_len (k : Int) (L : List Eff) (j : Nat) (h : j ≤ L.length) : (markXTo k L j).length = L.length := by
  simp [markXTo, marksX_len]; omega
theorem markXTo_zero (k : Int) (L : List Eff) : markXTo k L 0 = L := by simp [markXTo, marksX]
theorem markXTo_all (k : Int) (L : List Eff) : markXTo k L L.length = marksX k L := by simp [markXTo]
theorem markXTo_get (k : Int) (L : List Eff) (j : Nat) (h : j < L.length) : (markXTo k L j).getD j noEff = L.getD j noEff := by
  have e : (marksX k (L.take j)).length = j := by rw [marksX_len, List.length_take]; omega
  unfold markXTo
  rw [List.getD_eq_getElem?_getD, List.getElem?_append_right (by rw [e]; exact Nat.le_refl _), e, Nat.sub_self, List.getElem?_drop, Nat.add_zero, List.getD_eq_getElem?_getD]
theorem markXTo_set (k : Int) (L : List Eff) (j : Nat) (h : j < L.length) : (markXTo k L j).set j (markOf (k + offX L j) (L.getD j noEff)) = markXTo k L (j + 1) := by
  have e : (marksX k (L.take j)).length = j := by rw [marksX_len, List.length_take]; omega
  unfold markXTo
  rw [marksX_next k L j h, List.set_append_right _ _ (by rw [e]; exact Nat.le_refl _), e, Nat.sub_self, List.drop_eq_getElem_cons h, List.set_cons_zero, List.append_assoc]
  rfl
theorem getD_setX (L : List Eff) (j : Nat) (x : Eff) (h : j < L.length) : (L.set j x).getD j noEff = x := by
  rw [List.getD_eq_getElem?_getD, List.getElem?_set, if_pos rfl, if_pos h]; rfl
theorem set_twiceX (L : List Eff) (j : Nat) (x y : Eff) : (L.set j x).set j y = L.set j y := by simp
/-- All effects are marked. -/
def MarkedX (w : World) (B T : Nat) (v : Value) (k : Int) (L : List Eff) (e : Ending) (w' : World) : Prop :=
  e = .returned (.int .i64 (k + offX L L.length)) ∧ OwnFs w' B T 39 70 v (marksX k L) ∧ Turn B T w w'
theorem tmod3 {k : Int} (h : 0 ≤ k) : k.tmod 3 = k % 3 := Int.tmod_eq_emod_of_nonneg h
set_option maxHeartbeats 2000000 in
theorem markEffectS_own (B T : Nat) (v : Value) (L : List Eff) (k : Int) (w : World) (h : OwnFs w B T 39 70 v L) (hw : wtX L ≤ 4000000) (hk0 : 0 ≤ k) (hk1 : k ≤ 10000000) :
    Calls Try.prog 42 #[v, .int .i64 k] w (MarkedX w B T v k L) := by
  have hoff : ∀ j, j ≤ L.length → offX L j ≤ 8000000 := fun j hj => by
    unfold wtX at hw; have := sumX_take L j; unfold offX; omega
  have HOFF := Lib.hid hoff; clear hoff
  have HSW : Hid (∀ j, j < L.length → (L.getD j noEff).rds.length + (L.getD j noEff).wrs.length ≤ 4000000) := Lib.hid (fun j hj => by have := sumX_len L j hj; unfold wtX at hw; omega)
  have hlen : L.length ≤ 4000000 := by unfold wtX at hw; omega
  clear hw
  rcases h.form with ⟨rfl, rfl⟩ | ⟨g, cap, rfl, hBg, hgT, -⟩
  · have HO := Lib.hid h
    clear h
    go_enter Try.func42, Try.ntmps42
    go_wp2
    go_loop [1, 5] (fun q i => q = .int .i64 k ∧ i = .int .i64 0) (fun _ _ => 0)
    case atStart => exact ⟨rfl, rfl⟩
    case round =>
      obtain ⟨rfl, rfl⟩ := hrel
      go_wp2
      go_ret
      exact ⟨by simp [offX, sumX], HO.out, Turn.refl _ _ _⟩
  · obtain ⟨n, hn⟩ : ∃ n, n = L.length := ⟨_, rfl⟩
    rw [← hn] at h hlen ⊢
    have HN := Lib.hid hn.symm
    clear hn
    have hm0 : OwnFs w B T 39 70 (.slice (some ⟨g, 0, none⟩) n cap) (markXTo k L 0) := by rw [markXTo_zero]; exact h
    clear h
    go_enter Try.func42, Try.ntmps42
    go_wp2
    go_loopw [1, 5] (fun q i wr => ∃ j : Nat, j ≤ n ∧ i = .int .i64 j ∧ q = .int .i64 (k + offX L j) ∧ OwnFs wr B T 39 70 (.slice (some ⟨g, 0, none⟩) n cap) (markXTo k L j) ∧ Turn B T w wr) (fun _ i _ => n - (intOf i).toNat)
    case atStart => exact ⟨0, Nat.zero_le _, rfl, by simp [offX, sumX], hm0, Turn.refl _ _ _⟩
    case round =>
      clear hm0
      obtain ⟨j, hj, rfl, rfl, hO, ht⟩ := hrel
      by_cases hlt : j < n
      · have hjL : j < L.length := by rw [HN.out]; exact hlt
        have hjM : j < (markXTo k L j).length := by rw [markXTo_len k L j (by omega)]; exact hjL
        obtain ⟨-, x0, y0, z0, hx0, hy0, hz0, hf0, -, -, -⟩ := hO.cell j hjM
        have hof := HOFF.out j (by omega)
        have hon := offX_next L j hjL
        have hle := HSW.out j hjL
        obtain ⟨db, hdb⟩ : ∃ db, db = mk3 (k + offX L j) := ⟨_, rfl⟩
        have hO1 := hO.setBool j hjM db
        have HT1 := Lib.hid (ht.setCell ⟨hBg, hgT⟩ (j * 3) (.bool db))
        obtain ⟨x, hcx, hox, hbx, hxg, hback⟩ := hO1.rdsAt j (by rw [List.length_set]; exact hjM)
        rw [getD_setX _ _ _ hjM, markXTo_get k L j hjL] at hox hback
        simp only [set_twiceX] at hback
        have hlM : ∀ e, j < ((markXTo k L j).set j e).length := fun e => by rw [List.length_set]; exact hjM
        have HB2 : Hid (∀ w' l, w'.ownsRow 0 70 2 x l.length (flatE l) → WfE l → l.length ≤ 4000000 → ((wr.setCell ⟨g, j * 3, none⟩ (.bool db))).grownBy w' x.ownBlock →
            ∃ y, w'.cell? ⟨g, j * 3 + 2, none⟩ = some y ∧ w'.ownsRow 0 70 2 y (L.getD j noEff).wrs.length (flatE (L.getD j noEff).wrs) ∧ (∀ b, y.ownBlock = some b → B ≤ b ∧ b < T) ∧
              ∀ w'' l', w''.ownsRow 0 70 2 y l'.length (flatE l') → WfE l' → l'.length ≤ 4000000 → w'.grownBy w'' y.ownBlock → OwnFs w'' B T 39 70 (.slice (some ⟨g, 0, none⟩) n cap) ((markXTo k L j).set j ⟨db, l, l'⟩)) := Lib.hid (fun w' l h1 h2 h3 h4 => by
          have hO2 := hback w' l h1 h2 h3 h4
          obtain ⟨y, hcy, hoy, hby, -, hb2⟩ := hO2.wrsAt j (hlM _)
          rw [getD_setX _ _ _ hjM] at hoy hb2
          simp only [set_twiceX] at hb2
          exact ⟨y, hcy, hoy, hby, hb2⟩)
        have HST := Lib.hid (markXTo_set k L j hjL)
        have HBX := Lib.hid hbx
        have HOX := Lib.hid hox
        clear hback hbx hox hO1 hO ht hy0 hz0 hjM hlM
        obtain ⟨q, hq⟩ : ∃ q, q = offX L j := ⟨_, rfl⟩
        rw [← hq] at hof hon HST hdb ⊢
        obtain ⟨rs, hrs⟩ : ∃ rs, rs = (L.getD j noEff).rds := ⟨_, rfl⟩
        obtain ⟨ws, hws⟩ : ∃ ws, ws = (L.getD j noEff).wrs := ⟨_, rfl⟩
        have HMO : Hid (markOf (k + q) (L.getD j noEff) = ⟨db, marksE (k + q + 1) rs.length, marksE (k + q + 1 + 2 * rs.length) ws.length⟩) := Lib.hid (by rw [hdb, hrs, hws]; rfl)
        rw [HMO.out] at HST
        rw [← hrs] at hon hle HOX
        rw [← hws] at hon hle HB2
        have HS2 := Lib.hid hon
        have hr1 : rs.length ≤ 4000000 := by omega
        have hw1 : ws.length ≤ 4000000 := by omega
        have hkq : 0 ≤ k + (q : Int) := by omega
        have t3 := tmod3 hkq
        have m1 : ((k + (q : Int)) % 3 == 0) = db := by rw [hdb]; rfl
        have m2 : ((k + (q : Int)).tmod 3 == 0) = db := by rw [t3]; exact m1
        clear hq hrs hws hon hdb HMO t3
        go_wp2_with fail
        refine (markEntryS_own 0 rs.length x rs _ _ HOX.out rfl hr1 (by omega) (by omega)).mono ?_; rintro e w2 ⟨rfl, ho2, hg2⟩
        obtain ⟨y, hcy, hoy, hby, hb2⟩ := HB2.out w2 (marksE (k + q + 1) rs.length) (by rw [marksE_len]; exact ho2) (wfE_marks _ _ (by omega) (by omega) hr1) (by rw [marksE_len]; exact hr1) hg2
        have HT2 := Lib.hid (HT1.out.trans (Turn.ofGrown hg2 HBX.out))
        have HOY := Lib.hid hoy
        have HBY := Lib.hid hby
        have HB3 := Lib.hid hb2
        clear hg2 ho2 hcx hx0 hoy hby hb2 m1 m2
        go_wp2_with fail
        refine (markEntryS_own 0 ws.length y ws _ _ HOY.out rfl hw1 (by omega) (by omega)).mono ?_; rintro e w3 ⟨rfl, ho3, hg3⟩
        have hO3 := HB3.out w3 (marksE (k + q + 1 + 2 * rs.length) ws.length) (by rw [marksE_len]; exact ho3) (wfE_marks _ _ (by omega) (by omega) hw1) (by rw [marksE_len]; exact hw1) hg3
        rw [HST.out] at hO3
        have HF := Lib.hid hO3
        have HT3 := Lib.hid (HT2.out.trans (Turn.ofGrown hg3 HBY.out))
        clear hO3 hg3 ho3 hcy
        go_wp2
        go_roundw
        case rel => exact ⟨j + 1, by omega, by go_num, by rw [HS2.out]; congr 1; omega, HF.out, HT3.out⟩
        case measure => simp [intOf]; omega
      · obtain rfl : j = n := by omega
        have e : markXTo k L j = marksX k L := by rw [← HN.out]; exact markXTo_all k L
        rw [e] at hO
        have HO := Lib.hid hO
        clear hO e
        go_wp2
        go_ret
        exact ⟨by rw [HN.out]; rfl, HO.out, ht⟩
set_option maxHeartbeats 1000000 in
theorem heldEffectS_any (a : Option Addr) (n cap : Nat) (L : List Eff) (k : Int) (w : World) (h : RowFs w a n (marksX k L)) (hn : L.length = n) (hw : wtX L ≤ 4000000) (hk0 : 0 ≤ k) (hk1 : k ≤ 10000000) :
    Calls Try.prog 44 #[.slice a n cap, .int .i64 k] w fun e w' => e = .returned (.int .i64 (k + offX L n)) ∧ w = w' := by
  have hoff : ∀ j, j ≤ L.length → offX L j ≤ 8000000 := fun j hj => by
    unfold wtX at hw; have := sumX_take L j; unfold offX; omega
  have HOFF := Lib.hid hoff; clear hoff
  have HSW : Hid (∀ j, j < L.length → (L.getD j noEff).rds.length + (L.getD j noEff).wrs.length ≤ 4000000) := Lib.hid (fun j hj => by have := sumX_len L j hj; unfold wtX at hw; omega)
  have hlen : n ≤ 4000000 := by unfold wtX at hw; omega
  clear hw
  obtain ⟨-, -, hc⟩ := h
  have HN := Lib.hid hn; clear hn
  by_cases h0 : 0 < n
  · obtain ⟨b, off, rfl, hcc⟩ := hc h0; clear hc; have hc := hcc; clear hcc
    go_enter Try.func44, Try.ntmps44
    go_wp2
    go_loop [1, 5] (fun q i => ∃ j : Nat, j ≤ n ∧ i = .int .i64 j ∧ q = .int .i64 (k + offX L j)) (fun _ i => n - (intOf i).toNat)
    case atStart => exact ⟨0, Nat.zero_le _, rfl, by simp [offX, sumX]⟩
    case round =>
      obtain ⟨j, hj, rfl, rfl⟩ := hrel
      by_cases hlt : j < n
      · have hjL : j < L.length := by rw [HN.out]; exact hlt
        obtain ⟨c1, ⟨x, c2, hs⟩, y, c3, hs2⟩ := hc j hlt
        rw [marksX_get k L j hjL] at c1 hs hs2
        have hof := HOFF.out j (by omega)
        have hon := offX_next L j hjL
        have hle := HSW.out j hjL
        obtain ⟨a', n', cap', rfl, hre, -, -⟩ := hs
        obtain ⟨a2, n2, cap2, rfl, hre2, -, -⟩ := hs2
        have hn' := hre.1
        have hn2 := hre2.1
        simp only [markOf] at c1 hre hre2 hn' hn2
        rw [marksE_len] at hn' hn2
        rw [hn'] at hon hle hre hre2
        rw [hn2] at hon hle hre2
        obtain ⟨q, hq⟩ : ∃ q, q = offX L j := ⟨_, rfl⟩
        rw [← hq] at hof hon c1 hre hre2 ⊢
        have HRE := Lib.hid hre
        have HRE2 := Lib.hid hre2
        have HS2 := Lib.hid hon
        have hkq : 0 ≤ k + (q : Int) := by omega
        have t3 := tmod3 hkq
        obtain ⟨db, hdb⟩ : ∃ db, db = mk3 (k + (q : Int)) := ⟨_, rfl⟩
        have m1 : ((k + (q : Int)) % 3 == 0) = db := by rw [hdb]; rfl
        have m2 : ((k + (q : Int)).tmod 3 == 0) = db := by rw [t3]; exact m1
        have hdd : (db != db) = false := by simp
        rw [← hdb] at c1
        clear hc hq hn' hn2 hre hre2 hon hdb t3
        go_wp2_with fail
        refine (heldEntryS_any a' n' cap' _ _ HRE.out (by omega) (by omega) (by omega)).mono ?_; rintro e w' ⟨rfl, rfl⟩
        have hnn : decide (k + (q : Int) + 1 + 2 * (n' : Int) < 0) = false := by simp; omega
        clear m1 m2
        go_wp2_with fail
        refine (heldEntryS_any a2 n2 cap2 _ _ HRE2.out (by omega) (by omega) (by omega)).mono ?_; rintro e w' ⟨rfl, rfl⟩
        have hnn2 : decide (k + (q : Int) + 1 + 2 * (n' : Int) + 2 * (n2 : Int) < 0) = false := by simp; omega
        go_wp2
        go_round
        case rel => exact ⟨j + 1, by omega, by go_num, by rw [HS2.out]; congr 1; omega⟩
        case measure => simp [intOf]; omega
      · obtain rfl : j = n := by omega
        clear hc
        go_wp2
        go_ret
        exact ⟨rfl, rfl⟩
  · obtain rfl : n = 0 := by omega
    clear hc
    go_enter Try.func44, Try.ntmps44
    go_wp2
    go_loop [1, 5] (fun q i => q = .int .i64 k ∧ i = .int .i64 0) (fun _ _ => 0)
    case atStart => exact ⟨rfl, rfl⟩
    case round =>
      obtain ⟨rfl, rfl⟩ := hrel
      go_wp2
      go_ret
      exact ⟨by simp [offX, sumX], rfl⟩
end Go.Proofs.Ytpnahncmhldgdaa

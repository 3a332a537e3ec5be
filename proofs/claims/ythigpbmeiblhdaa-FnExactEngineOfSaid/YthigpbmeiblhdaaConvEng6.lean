/- The contracts of the laws' own helpers heldSlotS and heldEngine. -/
import Derived.Test.YthigpbmeiblhdaaMarkSl
import Derived.Test.YthigpbmeiblhdaaConvH
import Derived.Test.YthigpbmeiblhdaaHeldA
namespace Go.Proofs.Ythigpbmeiblhdaa
open Go.RowKit
set_option linter.unusedVariables false
theorem sumMk_le (L : List Slt) : sumMk L ≤ 3 * (L.length + sumSl L) := by
  induction L with
  | nil => simp [sumMk]
  | cons a r ih => simp only [sumMk, sumSl, List.length_cons, mkN, wtS]; omega
theorem offSl_le (L : List Slt) (j : Nat) : offSl L j ≤ 3 * wtSl L := by
  have h := sumMk_append (L.take j) (L.drop j)
  rw [List.take_append_drop] at h
  have := sumMk_le L
  unfold offSl wtSl; omega
set_option maxRecDepth 100000 in
set_option maxHeartbeats 4000000 in
theorem heldSlotS_any (a : Option Addr) (n cap : Nat) (L : List Slt) (k : Int) (w : World) (h : RowSl w a n (marksSl k L)) (hn : L.length = n) (hw : wtSl L ≤ 2000000) (hk0 : 0 ≤ k) (hk1 : k ≤ 10000000) :
    Calls Try.prog 34 #[.slice a n cap, .int .i64 k] w fun e w' => e = .returned (.int .i64 (k + offSl L n)) ∧ w = w' := by
  have HOFF : Hid (∀ j, offSl L j ≤ 6000000) := Lib.hid fun j => by have := offSl_le L j; omega
  have HSW : Hid (∀ j, j < L.length → wtS (L.getD j noSlt) ≤ 2000000) := Lib.hid (fun j hj => by have := sumSl_len L j hj; unfold wtSl at hw; omega)
  have hlen : n ≤ 2000000 := by unfold wtSl at hw; omega
  clear hw
  obtain ⟨-, -, hc, -⟩ := h
  have HN := Lib.hid hn; clear hn
  go_enter Try.func34, Try.ntmps34
  go_wp2
  go_loop [1, 5] (fun q i => ∃ j : Nat, j ≤ n ∧ i = .int .i64 j ∧ q = .int .i64 (k + offSl L j)) (fun _ i => n - (intOf i).toNat)
  case atStart => exact ⟨0, Nat.zero_le _, rfl, by simp [offSl, sumMk]⟩
  case round =>
    obtain ⟨j, hj, rfl, rfl⟩ := hrel
    by_cases hlt : j < n
    · have hjL : j < L.length := by rw [HN.out]; exact hlt
      obtain ⟨b, off, rfl, hcc⟩ := hc (by omega)
      obtain ⟨g1, g2, ⟨x, g3, hx⟩, g4, ⟨y, g5, hy⟩, z, g6, hz⟩ := hcc j hlt
      rw [marksSl_get k L j hjL] at g1 g2 g4 hx hy hz
      have hof := HOFF.out j
      have hon := offSl_next L j hjL
      have hle := HSW.out j hjL
      unfold mkN at hon
      unfold wtS at hle
      obtain ⟨a1, n1, cap1, rfl, r1, -, -⟩ := hx
      obtain ⟨a2, n2, cap2, rfl, r2, -, -⟩ := hy
      obtain ⟨a3, n3, cap3, rfl, r3, -, -⟩ := hz
      have e1 := r1.1; have e2 := r2.1; have e3 := r3.1
      simp only [markOfS] at g1 g2 g4 r1 r2 r3 e1 e2 e3
      rw [show (marksI (k + (offSl L j : Nat) + 2) (L.getD j noSlt).from_.length).length = (L.getD j noSlt).from_.length by simp [marksI]] at e1
      rw [marksE_len] at e2 e3
      rw [e1] at hon hle r1 r2 r3 g4
      rw [e2] at hon hle r2 r3
      rw [e3] at hon hle r3
      obtain ⟨q, hq⟩ : ∃ q, q = offSl L j := ⟨_, rfl⟩
      rw [← hq] at hof hon g1 g2 g4 r1 r2 r3 ⊢
      rw [show k + (q : Int) + 2 = k + (q : Int) + 1 + 1 by omega] at r1 g4
      rw [show k + (q : Int) + 3 + (n1 : Int) = k + (q : Int) + 1 + 1 + (n1 : Int) + 1 by omega] at r2 r3
      have HR1 := Lib.hid r1; have HR2 := Lib.hid r2; have HR3 := Lib.hid r3
      have HS2 := Lib.hid hon
      have hkq : 0 ≤ k + (q : Int) + 1 + 1 + (n1 : Int) := by omega
      have t3 := tmod3 hkq
      obtain ⟨db, hdb⟩ : ∃ db, db = mk3 (k + (q : Int) + 1 + 1 + (n1 : Int)) := ⟨_, rfl⟩
      have m1 : ((k + (q : Int) + 1 + 1 + (n1 : Int)) % 3 == 0) = db := by rw [hdb]; rfl
      have m2 : ((k + (q : Int) + 1 + 1 + (n1 : Int)).tmod 3 == 0) = db := by rw [t3]; exact m1
      have hdd : (db != db) = false := by simp
      rw [← hdb] at g4
      have x1 : (k + (q : Int) != k + (q : Int)) = false := by simp
      have x2 : (k + (q : Int) + 1 != k + (q : Int) + 1) = false := by simp
      clear hc hcc hq e1 e2 e3 r1 r2 r3 hon hdb t3
      go_wp2_with fail
      refine (heldIntS_any a1 n1 cap1 _ _ HR1.out (by omega) (by omega) (by omega)).mono ?_; rintro e w' ⟨rfl, rfl⟩
      have y1 : decide (k + (q : Int) + 1 + 1 + (n1 : Int) < 0) = false := by simp; omega
      go_wp2_with fail
      refine (heldEntryS_any a2 n2 cap2 _ _ HR2.out (by omega) (by omega) (by omega)).mono ?_; rintro e w' ⟨rfl, rfl⟩
      have y2 : decide (k + (q : Int) + 1 + 1 + (n1 : Int) + 1 + 2 * (n2 : Int) < 0) = false := by simp; omega
      clear m1 m2
      go_wp2_with fail
      refine (heldEntryS_any a3 n3 cap3 _ _ HR3.out (by omega) (by omega) (by omega)).mono ?_; rintro e w' ⟨rfl, rfl⟩
      have y3 : decide (k + (q : Int) + 1 + 1 + (n1 : Int) + 1 + 2 * (n2 : Int) + 2 * (n3 : Int) < 0) = false := by simp; omega
      go_wp2
      go_round
      case rel => exact ⟨j + 1, by omega, by go_num, by rw [HS2.out]; congr 1; omega⟩
      case measure => simp [intOf]; omega
    · obtain rfl : j = n := by omega
      clear hc
      go_wp2
      go_ret
      exact ⟨rfl, rfl⟩
set_option maxHeartbeats 2000000 in
theorem heldEngine_any (a1 a2 a3 a4 : Option Addr) (n1 n2 n3 n4 c1 c2 c3 c4 : Nat) (L : List Slt) (k : Int) (w : World) (r1 : RowE w a1 n1 (marksE k n1)) (r2 : RowA w a2 n2 (marksA (k + 2 * n1) n2)) (r3 : RowV w a3 n3 (marksV (k + 2 * n1 + 4 * n2) n3)) (r4 : RowSl w a4 n4 (marksSl (k + 2 * n1 + 4 * n2 + 3 * n3) L)) (hn : L.length = n4) (hw : wtSl L ≤ 2000000) (m1 : n1 ≤ 500000) (m2 : n2 ≤ 500000) (m3 : n3 ≤ 500000) (hk0 : 0 ≤ k) (hk1 : k ≤ 1000000) :
    Calls Try.prog 16 #[.agg #[.slice a1 n1 c1, .slice a2 n2 c2, .slice a3 n3 c3, .slice a4 n4 c4], .int .i64 k] w fun e w' => e = .returned (.int .i64 (k + 2 * n1 + 4 * n2 + 3 * n3 + offSl L n4)) ∧ Below w.heap.size w w' := by
  have hb0 := (Below.refl w.heap.size w).alloc (Nat.le_refl _) (.cells #[.slice a1 n1 c1, .slice a2 n2 c2, .slice a3 n3 c3, .slice a4 n4 c4] 31)
  have R1 := Lib.hid (r1.below hb0); have R2 := Lib.hid (r2.below hb0); have R3 := Lib.hid (r3.below hb0); have R4 := Lib.hid (r4.below hb0)
  have HB := Lib.hid hb0
  have HN := Lib.hid hn
  have hof := offSl_le L n4
  clear r1 r2 r3 r4 hb0 hn
  obtain ⟨q, hq⟩ : ∃ q, q = offSl L n4 := ⟨_, rfl⟩
  have HQ := Lib.hid hq
  rw [← hq] at hof ⊢
  clear hq
  go_enter Try.func16, Try.ntmps16
  go_wp2_with fail
  refine (heldEntryS_any a1 n1 c1 _ _ R1.out (by omega) (by omega) (by omega)).mono ?_; rintro e w' ⟨rfl, rfl⟩
  have y1 : decide (k + 2 * (n1 : Int) < 0) = false := by simp; omega
  go_wp2_with fail
  refine (heldActionS_any a2 n2 c2 _ _ R2.out (by omega) (by omega) (by omega)).mono ?_; rintro e w' ⟨rfl, rfl⟩
  have y2 : decide (k + 2 * (n1 : Int) + 4 * (n2 : Int) < 0) = false := by simp; omega
  go_wp2_with fail
  refine (heldVersionS_any a3 n3 c3 _ _ R3.out (by omega) (by omega) (by omega)).mono ?_; rintro e w' ⟨rfl, rfl⟩
  have y3 : decide (k + 2 * (n1 : Int) + 4 * (n2 : Int) + 3 * (n3 : Int) < 0) = false := by simp; omega
  go_wp2_with fail
  refine (heldSlotS_any a4 n4 c4 L _ _ R4.out HN.out hw (by omega) (by omega)).mono ?_; rintro e w' ⟨rfl, rfl⟩
  rw [← HQ.out]
  have y4 : decide (k + 2 * (n1 : Int) + 4 * (n2 : Int) + 3 * (n3 : Int) + (q : Int) < 0) = false := by simp; omega
  go_wp2
  go_ret
  exact ⟨rfl, HB.out⟩
end Go.Proofs.Ythigpbmeiblhdaa

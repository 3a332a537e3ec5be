/- The contract of the model's BlockValid. -/
import Derived.Test.YtaaffpolmecicaaGreatBlkMem
import Derived.Test.YtaaffpolmecicaaGreatSpecAct
namespace Go.Proofs.YtaaffpolmecicaaGreat
open Go.RowKit
set_option linter.unusedVariables false
set_option maxHeartbeats 4000000 in
theorem blockValid_spec (p q r t u : Int) (a : Option Addr) (n c : Nat) (L : List Acn) (w : World) (h : RowA w a n L) :
    Calls Tryz.prog 33 #[.agg #[.int .i64 p, .int .i64 q, .int .i64 r, .slice a n c, .int .i64 t, .int .i64 u]] w (BoolS (blkB ⟨p, q, r, L, t, u⟩) w) := by
  have hb0 := (Below.refl w.heap.size w).alloc (Nat.le_refl _) (.cells #[.int .i64 p, .int .i64 q, .int .i64 r, .slice a n c, .int .i64 t, .int .i64 u] 31)
  have H := Lib.hid (h.below hb0)
  have HB := Lib.hid hb0
  clear h hb0
  cases e0 : inB p 0 1000002 with
  | false =>
    have HE : Hid (blkB ⟨p, q, r, L, t, u⟩ = false) := Lib.hid (by simp [blkB, e0])
    go_enter Tryz.func33, Tryz.ntmps33
    go_wp2_with (first | (go_at_call 35; refine (l1In_spec_hid _ _ _ _).mono ?_; rintro e w' ⟨rfl, rfl⟩))
    go_ret
    exact ⟨by rw [HE.out]; rfl, HB.out⟩
  | true =>
  cases e1 : inB t 0 1000002 with
  | false =>
    have HE : Hid (blkB ⟨p, q, r, L, t, u⟩ = false) := Lib.hid (by simp [blkB, e1])
    go_enter Tryz.func33, Tryz.ntmps33
    go_wp2_with (first | (go_at_call 35; refine (l1In_spec_hid _ _ _ _).mono ?_; rintro e w' ⟨rfl, rfl⟩))
    go_ret
    exact ⟨by rw [HE.out]; rfl, HB.out⟩
  | true =>
  cases e2 : inB u 0 1000002 with
  | false =>
    have HE : Hid (blkB ⟨p, q, r, L, t, u⟩ = false) := Lib.hid (by simp [blkB, e2])
    go_enter Tryz.func33, Tryz.ntmps33
    go_wp2_with (first | (go_at_call 35; refine (l1In_spec_hid _ _ _ _).mono ?_; rintro e w' ⟨rfl, rfl⟩))
    go_ret
    exact ⟨by rw [HE.out]; rfl, HB.out⟩
  | true =>
  cases e3 : inB q 0 100 with
  | false =>
    have HE : Hid (blkB ⟨p, q, r, L, t, u⟩ = false) := Lib.hid (by simp [blkB, e3])
    go_enter Tryz.func33, Tryz.ntmps33
    go_wp2_with (first | (go_at_call 35; refine (l1In_spec_hid _ _ _ _).mono ?_; rintro e w' ⟨rfl, rfl⟩))
    go_ret
    exact ⟨by rw [HE.out]; rfl, HB.out⟩
  | true =>
  cases e4 : inB r 0 1000 with
  | false =>
    have HE : Hid (blkB ⟨p, q, r, L, t, u⟩ = false) := Lib.hid (by simp [blkB, e4])
    go_enter Tryz.func33, Tryz.ntmps33
    go_wp2_with (first | (go_at_call 35; refine (l1In_spec_hid _ _ _ _).mono ?_; rintro e w' ⟨rfl, rfl⟩))
    go_ret
    exact ⟨by rw [HE.out]; rfl, HB.out⟩
  | true =>
  have HE : Hid (blkB ⟨p, q, r, L, t, u⟩ = actsB L) := Lib.hid (by simp [blkB, e0, e1, e2, e3, e4])
  go_enter Tryz.func33, Tryz.ntmps33
  go_wp2_with (first | (first | (go_at_call 35; refine (l1In_spec_hid _ _ _ _).mono ?_; rintro e w' ⟨rfl, rfl⟩)) | (go_at_call 36; refine (actionsValid_spec a n c L _ H.out).mono ?_; rintro e w1 ⟨rfl, hb1⟩; have HB1 := Lib.hid (HB.out.trans (hb1.mono HB.out.size)); clear hb1))
  go_ret
  exact ⟨by rw [HE.out]; rfl, HB1.out⟩
end Go.Proofs.YtaaffpolmecicaaGreat

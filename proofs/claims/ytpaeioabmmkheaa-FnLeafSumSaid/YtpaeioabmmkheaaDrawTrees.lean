/- The contracts of the drawn arguments of chapter 3's laws. -/
import Derived.Test.YtpaeioabmmkheaaDrawTree
namespace Go.Proofs.Ytpaeioabmmkheaa
open Go.RowKit
set_option linter.unusedVariables false
def IntIntD (w : World) (e : Ending) (w' : World) : Prop :=
  ∃ x y : Int, e = .returned (.tuple #[.int .i64 x, .int .i64 y]) ∧ -10 ≤ x ∧ x ≤ 1000010 ∧ -10 ≤ y ∧ y ≤ 1000010 ∧ Below w.heap.size w w'
theorem drawLeafSum_any (a : Option Addr) (len cap : Nat) (z : List Int) (w : World) (h : RowB w a len z) (hlc : len ≤ cap) :
    Calls Try.prog 14 #[.slice a len cap] w (IntIntD w) := by
  go_enter Try.func14, Try.ntmps14
  go_wp2_with fail
  refine (drawPutValue_any a len cap z w h hlc).mono ?_; rintro e w1 ⟨v, l, x, y, rfl, hown, hwf, hlen, hx0, hx1, hy0, hy1, hb1⟩
  clear h hlc hown
  go_wp2
  go_ret2
  exact ⟨x, y, rfl, hx0, hx1, hy0, hy1, hb1⟩
theorem drawRootOf_any (a : Option Addr) (len cap : Nat) (z : List Int) (w : World) (h : RowB w a len z) (hlc : len ≤ cap) :
    Calls Try.prog 19 #[.slice a len cap] w (EntsD w 72) := by
  go_enter Try.func19, Try.ntmps19
  go_wp2_with fail
  refine (open_any a len cap z w h hlc).mono ?_; rintro e w1 ⟨R, rfl, hR, hr, hb, hRlt⟩
  go_wp2_with fail
  refine (l20Store_any R 0 9 _ hr (by omega) (by omega) (by omega)).mono ?_; rintro e w2 ⟨v, l, rfl, hown, hwf, hlen, hr2, hu2⟩
  go_wp2
  go_ret
  exact ⟨v, l, rfl, hown.mono hb.size, hwf, hlen, hu2.below hb hb.size hR⟩
theorem drawProofOf_any (a : Option Addr) (len cap : Nat) (z : List Int) (w : World) (h : RowB w a len z) (hlc : len ≤ cap) :
    Calls Try.prog 26 #[.slice a len cap] w (EntsID w 72) := by
  go_enter Try.func26, Try.ntmps26
  go_wp2_with fail
  refine (drawValueAt_any a len cap z w h hlc).mono ?_; rintro e w1 ⟨v, l, x, rfl, hown, hwf, hlen, hx0, hx1, hb1⟩
  clear h hlc
  go_wp2
  go_ret2
  exact ⟨v, l, x, rfl, hown, hwf, hlen, hx0, hx1, hb1⟩
/-- A drawn key, value and proof. -/
def ProofD (w : World) (e : Ending) (w' : World) : Prop :=
  ∃ (key val : Int) (g o n cap : Nat) (p : List Int), e = .returned (.tuple #[.int .i64 key, .int .i64 val, .slice (some ⟨g, o, none⟩) n cap]) ∧ -10 ≤ key ∧ key ≤ 1000010 ∧ -10 ≤ val ∧ val ≤ 1000010 ∧ n ≤ 5 ∧ RowI w' (some ⟨g, o, none⟩) n p ∧ Below w.heap.size w w'
/-- .. ahead of them a root. -/
def RootProofD (w : World) (e : Ending) (w' : World) : Prop :=
  ∃ (root key val : Int) (g o n cap : Nat) (p : List Int), e = .returned (.tuple #[.int .i64 root, .int .i64 key, .int .i64 val, .slice (some ⟨g, o, none⟩) n cap]) ∧ -1 ≤ root ∧ root ≤ 1000002 ∧ -10 ≤ key ∧ key ≤ 1000010 ∧ -10 ≤ val ∧ val ≤ 1000010 ∧ n ≤ 5 ∧ RowI w' (some ⟨g, o, none⟩) n p ∧ Below w.heap.size w w'
theorem drawProofRoot_any (a : Option Addr) (len cap : Nat) (z : List Int) (w : World) (h : RowB w a len z) (hlc : len ≤ cap) :
    Calls Try.prog 31 #[.slice a len cap] w (ProofD w) := by
  go_enter Try.func31, Try.ntmps31
  go_wp2_with fail
  refine (open_any a len cap z w h hlc).mono ?_; rintro e w1 ⟨R, rfl, hR, hr, hb, hRlt⟩
  clear h hlc
  go_wp2_with fail
  refine (l20Proof_any R 0 _ hr (by omega)).mono ?_; rintro e w2 ⟨v, l, key, val, g, o, n, c, p, rfl, hown, hwf, hst, hk0, hk1, hv0, hv1, hn5, hRg, hg, hrp, hr2, hu2⟩
  clear hown hst hr
  go_wp2
  go_ret3
  exact ⟨key, val, g, o, n, c, p, rfl, hk0, hk1, hv0, hv1, hn5, hrp, hu2.below hb hb.size hR⟩
theorem drawProofRight_any (a : Option Addr) (len cap : Nat) (z : List Int) (w : World) (h : RowB w a len z) (hlc : len ≤ cap) :
    Calls Try.prog 33 #[.slice a len cap] w (RootProofD w) := by
  go_enter Try.func33, Try.ntmps33
  go_wp2_with fail
  refine (open_any a len cap z w h hlc).mono ?_; rintro e w1 ⟨R, rfl, hR, hr, hb, hRlt⟩
  clear h hlc
  go_wp2_with fail
  refine (l20Proof_any R 0 _ hr (by omega)).mono ?_; rintro e w2 ⟨v, l, key, val, g, o, n, c, p, rfl, hown, hwf, hst, hk0, hk1, hv0, hv1, hn5, hRg, hg, hrp, hr2, hu2⟩
  have hlen := store_len hst
  have hb2 := hu2.below hb hb.size hR
  have hs12 := hu2.size
  obtain ⟨gs, cs, rfl, hgs, hrow⟩ := rowE_of_own hown (by omega) hwf
  clear hst hr hu2 hb hown
  go_wp2_with fail
  refine (rootOf_spec _ _ cs l _ hrow).mono ?_; rintro e w3 ⟨rfl, hb3⟩
  have hrt := rootM_bd l
  obtain ⟨rt, hrt'⟩ : ∃ rt, rt = rootM l := ⟨_, rfl⟩
  rw [← hrt'] at hrt ⊢
  clear hrt'
  have hr3 := hr2.below hb3
  have hrp3 := hrp.below hb3
  have hbb3 := hb2.trans (hb3.mono hb2.size)
  have hs23 := hb3.size
  clear hr2 hrp hb2 hb3 hrow
  go_wp2_with fail
  refine (pick_pos R _ 9 _ (hr3.alloc _) (by omega) (by omega) (by omega)).mono ?_; rintro e w4 ⟨x, rfl, hx0, hx1, hr4, hu4⟩
  have hRb := hr3.lt
  have hcell : ∃ y, w4.cell? ⟨w3.heap.size, (x / 8).toNat, none⟩ = some (.int .i64 y) ∧ -1 ≤ y ∧ y ≤ 1000002 := by
    rcases (by omega : x / 8 = 0 ∨ x / 8 = 1) with h | h
    · rw [h]; exact ⟨_, hu4.cell (by simp [go_sem]; rfl) (by omega), by omega, by omega⟩
    · rw [h]; exact ⟨_, hu4.cell (by simp [go_sem]; rfl) (by omega), by omega, by omega⟩
  obtain ⟨y, hy, hy2, hy3⟩ := hcell
  have hu := ((Upd.refl R w3).alloc _).trans hu4
  have hrp4 := hu.rowI hrp3 (fun b o e => by simp at e; omega)
  have hb4 := hu.below hbb3 hbb3.size hR
  have hq0 : 0 ≤ x / 8 := by omega
  have hq1 : x / 8 < 2 := by omega
  clear hu hu4 hrp3 hbb3 hr3 hr4
  go_wp2
  refine bodyPost_ret (results_tmp4 rfl _ _ _) rfl ?_
  exact ⟨y, key, val, g, o, n, c, p, rfl, hy2, hy3, hk0, hk1, hv0, hv1, hn5, hrp4, hb4⟩
end Go.Proofs.Ytpaeioabmmkheaa

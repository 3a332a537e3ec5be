/- The walks of the laws FnActionValid, FnActionsValid. -/
import Derived.Test.YtpjknhfcfhmmnaaDrawAc
import Derived.Test.YtpjknhfcfhmmnaaFive
import Derived.Test.YtpjknhfcfhmmnaaOne
namespace Go.Proofs.Ytpjknhfcfhmmnaa
open Go.RowKit
set_option linter.unusedVariables false
/-- A drawn action, by value. -/
def ActD (w : World) (e : Ending) (w' : World) : Prop :=
  ∃ p q r t : Int, e = .returned (.agg #[.int .i64 p, .int .i64 q, .int .i64 r, .int .i64 t]) ∧ (-10 ≤ p ∧ p ≤ 100) ∧ (-10 ≤ q ∧ q ≤ 100) ∧ (-10 ≤ r ∧ r ≤ 100) ∧ (-10 ≤ t ∧ t ≤ 1000010) ∧ Below w.heap.size w w'
theorem RowB.below {w w' : World} {a : Option Addr} {len : Nat} {z : List Int} (h : RowB w a len z) (hb : Below w.heap.size w w') : RowB w' a len z := by
  obtain ⟨h1, h2, h3, h4⟩ := h
  refine ⟨h1, h2, fun hl => ?_, h4⟩
  obtain ⟨b, off, he, hc⟩ := h3 hl
  refine ⟨b, off, he, fun i hi => ?_⟩
  have hlt : b < w.heap.size := World.block_lt_of_cell? w ⟨b, off + i, none⟩ (hc i hi)
  rw [hb.cell (p := ⟨b, off + i, none⟩) hlt]
  exact hc i hi
theorem drawActionValid_any (a : Option Addr) (len cap : Nat) (z : List Int) (w : World) (h : RowB w a len z) (hlc : len ≤ cap) :
    Calls Try.prog 9 #[.slice a len cap] w (ActD w) := by
  have hz0 := actAt_new w 24 0 0 0 0
  have hb0 := (Below.refl w.heap.size w).alloc (Nat.le_refl _) (.cells #[.int .i64 0, .int .i64 0, .int .i64 0, .int .i64 0] 24)
  have HR := Lib.hid (h.below hb0)
  have HB0 := Lib.hid hb0
  clear h hb0
  go_enter Try.func9, Try.ntmps9
  go_wp2_with fail
  refine (open_any a len cap z _ HR.out hlc).mono ?_; rintro e w1 ⟨R, rfl, hR, hr1, hb1, hRw⟩
  have hz1 := hz0.grown (Below.grownBy hb1 none) (by simp)
  have hR1 : w.heap.size < R := by simp at hR; omega
  have HB1 := Lib.hid (HB0.out.trans (hb1.mono (by simp)))
  clear hz0 hb1 hR
  go_wp2_with fail
  refine (l20Action_any R 0 2 _ hr1 (by omega) (by omega) (by omega)).mono ?_; rintro e w2 ⟨p, q, r, t, rfl, hp, hq, hrr, ht, hr2, hu2⟩
  obtain ⟨⟨z1, z2, z3, z4⟩, z5, z6, z7, z8⟩ := hz1.grown hu2 (by simp; omega)
  have HB2 := Lib.hid (hu2.below HB1.out HB1.out.size (by omega))
  have HP := Lib.hid (And.intro hp (And.intro hq (And.intro hrr ht)))
  clear hr1 hr2 hu2 hz1 hp hq hrr ht
  go_wp2_with fail
  refine bodyPost_ret (v := .agg #[.int .i64 p, .int .i64 q, .int .i64 r, .int .i64 t]) ?_ rfl ⟨p, q, r, t, rfl, HP.out.1, HP.out.2.1, HP.out.2.2.1, HP.out.2.2.2, (((HB2.out.setCell (p := ⟨w.heap.size, 0, none⟩) (Nat.le_refl _) _).setCell (p := ⟨w.heap.size, 1, none⟩) (Nat.le_refl _) _).setCell (p := ⟨w.heap.size, 2, none⟩) (Nat.le_refl _) _).setCell (p := ⟨w.heap.size, 3, none⟩) (Nat.le_refl _) _⟩
  simp [results, Try.results9, go_sem, z1, z2, z3, z4]
set_option maxRecDepth 100000 in
set_option maxHeartbeats 4000000 in
theorem lawActionValid (a : Option Addr) (len cap : Nat) (z : List Int) (w : World) (h : RowB w a len z) (hc : a = none → cap = 0) (hlc : len ≤ cap) :
    Calls Try.prog 3 #[.slice a len cap] w (LawTrue w) := by
  by_cases hs : len ≤ 1048576
  · have hs' : ¬ (1048576 : Int) < (len : Int) := by omega
    go_enter Try.func3, Try.ntmps3
    go_wp2_with fail
    refine (drawActionValid_any a len cap z w h hlc).mono ?_; rintro e w1 ⟨p, q, r, t, rfl, hp, hq, hr, ht, hb1⟩
    clear h hs hs' hp hq hr ht
    go_wp2_with fail
    refine (actionValid_impl _ _ _ _ _).mono ?_; rintro e w2 ⟨rfl, hb2'⟩
    have hA2 := (actAt_new w1 24 p q r t).grown (Below.grownBy hb2' none) (by simp)
    have hz2 := hb2'.size
    simp only [World.size_alloc] at hz2
    have hbq : Below w.heap.size w w2 := (hb1.alloc hb1.size _).trans (hb2'.mono (by have := hb1.size; simp; omega))
    have hsw := hbq.size
    have HB2 := Lib.hid hbq
    have HA2 := Lib.hid hA2
    obtain ⟨⟨c1, c2, c3, c4⟩, -⟩ := hA2
    obtain ⟨v, hv⟩ : ∃ v, v = actB ⟨p, q, r, t⟩ := ⟨_, rfl⟩
    rw [← hv]
    have HV := Lib.hid hv
    have hvv : (v != v) = false := by simp
    clear hb1 hb2' hv hbq
    go_wp2_with fail
    refine (actionValid_spec _ _ _ _ _).mono ?_; rintro e w3 ⟨rfl, hb3'⟩
    rw [← HV.out]
    obtain ⟨⟨d1, d2, d3, d4⟩, -⟩ := HA2.out.grown (Below.grownBy hb3' none) (by simp)
    have hb3 := HB2.out.trans (hb3'.mono hsw)
    clear c1 c2 c3 c4 hb3'
    have e7 : actB ⟨7, q, 0, 0⟩ = false := actB_kind (by omega)
    have e1 : actB ⟨1, -1, 0, 0⟩ = false := actB_src (by decide)
    have E7 := Lib.hid e7; have E1 := Lib.hid e1
    clear e7 e1
    go_wp2_with fail
    refine (actionValid_impl 7 q 0 0 _).mono ?_; rintro e w4 ⟨rfl, hb4'⟩
    rw [E7.out]
    have hb4 := hb3.trans (hb4'.mono hb3.size)
    clear d1 d2 d3 d4 hb4'
    go_wp2_with fail
    refine (actionValid_impl 1 (-1) 0 0 _).mono ?_; rintro e w5 ⟨rfl, hb5'⟩
    rw [E1.out]
    have hb5 := hb4.trans (hb5'.mono hb4.size)
    clear hb5'
    go_wp2_with fail
    refine (alive_any _).mono ?_; rintro e w6 ⟨rfl, hb6'⟩
    go_wp2
    go_ret
    exact ⟨rfl, hb5.trans (hb6'.mono hb5.size)⟩
  · have hs' : (1048576 : Int) < (len : Int) := by omega
    clear h hlc
    go_enter Try.func3, Try.ntmps3
    go_wp2
    go_ret
    exact ⟨rfl, Below.refl _ _⟩
/-- Drawn actions. -/
def AsD (w : World) (e : Ending) (w' : World) : Prop :=
  ∃ (g c : Nat) (l : List Acn), e = .returned (.slice (some ⟨g, 0, none⟩) l.length c) ∧ RowA w' (some ⟨g, 0, none⟩) l.length l ∧ l.length ≤ c ∧ l.length ≤ 20 ∧ Below w.heap.size w w'
theorem drawActionsValid_any (a : Option Addr) (len cap : Nat) (z : List Int) (w : World) (h : RowB w a len z) (hlc : len ≤ cap) :
    Calls Try.prog 13 #[.slice a len cap] w (AsD w) := by
  go_enter Try.func13, Try.ntmps13
  go_wp2_with fail
  refine (open_any a len cap z _ h hlc).mono ?_; rintro e w1 ⟨R, rfl, hR, hr1, hb1, hRw⟩
  clear h
  go_wp2_with fail
  refine (l20Actions_any R 0 2 _ hr1 (by omega) (by omega) (by omega)).mono ?_; rintro e w2 ⟨v, l, rfl, ho, hw, hlen, hr2, hu2⟩
  obtain ⟨g, c, rfl, -, -, hr, hlc⟩ := rowA_of_own ho (by omega) hw
  have hb2 := hu2.below hb1 hb1.size hR
  clear hr1 hr2 hu2 ho
  go_wp2
  go_ret
  exact ⟨g, c, l, rfl, hr, hlc, hlen, hb2⟩
set_option maxRecDepth 100000 in
set_option maxHeartbeats 4000000 in
theorem lawActionsValid (a : Option Addr) (len cap : Nat) (z : List Int) (w : World) (h : RowB w a len z) (hc : a = none → cap = 0) (hlc : len ≤ cap) :
    Calls Try.prog 4 #[.slice a len cap] w (LawTrue w) := by
  by_cases hs : len ≤ 1048576
  · have hs' : ¬ (1048576 : Int) < (len : Int) := by omega
    go_enter Try.func4, Try.ntmps4
    go_wp2_with fail
    refine (drawActionsValid_any a len cap z w h hlc).mono ?_; rintro e w1 ⟨g, c, l, rfl, hr1, hlc1, hl20, hb1⟩
    clear h hs hs' hc hlc
    have HWF := Lib.hid (show WfAs l from hr1.2.2.2)
    go_wp2_with fail
    refine (actionsValid_impl _ _ c l _ hr1).mono ?_; rintro e w2 ⟨rfl, hb2'⟩
    have hr2 := hr1.below hb2'
    have hb2 := hb1.trans (hb2'.mono hb1.size)
    clear hr1 hb1 hb2'
    obtain ⟨v, hv⟩ : ∃ v, v = actsB l := ⟨_, rfl⟩
    rw [← hv]
    have HV := Lib.hid hv
    have hvv : (v != v) = false := by simp
    clear hv
    go_wp2_with fail
    refine (actionsValid_spec _ _ c l _ hr2).mono ?_; rintro e w3 ⟨rfl, hb3'⟩
    rw [← HV.out]
    have hr3 := hr2.below hb3'
    have hb3 := hb2.trans (hb3'.mono hb2.size)
    clear hr2 hb2 hb3'
    cases v with
    | false =>
      have hown0 : Own (w3.alloc (.cells #[] 24)) w3.heap.size 24 4 (.slice (some ⟨w3.heap.size, 0, none⟩) 0 0) 0 [] := own_lit 24 4 #[] 0 (Nat.le_refl _) (by simp) rfl
      have hbl := (Below.refl w3.heap.size w3).alloc (Nat.le_refl _) (.cells #[] 24)
      have HNW := Lib.hid (hr3.below hbl).news
      go_wp2_with (at_builtin; refine wpList_append_rows (by first | rfl | simp [Region.wanted, yielded]) _ _ 29 rfl w3.heap.size 24 (.agg #[.int .i64 0, .int .i64 0, .int .i64 0, .int .i64 0]) 4 32 Try.underlying29 infoActS rfl (by decide) _ _ _ (flatA l) (by rfl) hown0 (some ⟨g, 0, none⟩) l.length c (by rfl) (fun he => by cases he) ?p1 HNW.out ?p2 ?p3 (by decide) ?p4 ?_)
      case p1 => exact flatA_len l
      case p2 => exact flatA_one l
      case p3 => omega
      case p4 => simp
      intro v4 w4 ho4 hg4
      have hbx : Below w3.heap.size w3 w4 := hbl.grown hg4 (by simp) (fun k hk => (hown0.1.lt k hk).1)
      try simp only [Nat.zero_add, List.nil_append] at ho4
      clear hg4 hown0 hbl
      go_wp2_with (at_builtin; refine wpList_append_one (by first | rfl | simp [Region.wanted, yielded]) _ _ 29 rfl w3.heap.size 24 _ (.agg #[.int .i64 0, .int .i64 0, .int .i64 0, .int .i64 0]) 4 32 Try.underlying29 infoActS rfl (by decide) _ _ _ [.int .i64 0, .int .i64 0, .int .i64 0, .int .i64 0] (by rfl) ho4 (by rfl) rfl ?p5 ?p6 (by decide) ?p7 ?_)
      case p5 => exact celA_one noA
      case p6 => omega
      case p7 => exact hbx.size
      intro v5 w5 ho5 hg5
      have hb5x : Below w3.heap.size w3 w5 := (hbx.alloc hbx.size _).grown hg5 (by have := hbx.size; simp; omega) (fun k hk => (ho4.1.lt k hk).1)
      have hb5 := hb3.trans (hb5x.mono hb3.size)
      have ho6 : Own w5 w3.heap.size 24 4 v5 (l ++ [noA]).length (flatA (l ++ [noA])) := by
        rw [List.length_append, flatA_append]; exact ho5
      obtain ⟨g5, c5, rfl, -, -, hr5, hl5⟩ := rowA_of_own ho6 (by simp; omega) (HWF.out.snoc ⟨by decide, by decide, by decide, by decide⟩)
      have HLE := Lib.hid (show (l ++ [noA]).length = l.length + 1 by simp)
      rw [HLE.out] at hr5 hl5
      have HF := Lib.hid (actsB_zero l)
      have hv5 : (Value.slice (some ⟨g5, 0, none⟩) (l ++ [noA]).length c5) = .slice (some ⟨g5, 0, none⟩) (l.length + 1) c5 := by rw [HLE.out]
      rw [hv5]
      clear ho4 ho5 ho6 hg5 hbx hb5x hv5
      go_wp2_with fail
      refine (actionsValid_impl _ _ c5 (l ++ [noA]) _ hr5).mono ?_; rintro e w6 ⟨rfl, hb6'⟩
      have hb6 := hb5.trans (hb6'.mono hb5.size)
      rw [HF.out]
      clear hr5 hb6'
      go_wp2_with fail
      refine (alive_any _).mono ?_; rintro e w7 ⟨rfl, hb7⟩
      go_wp2
      go_ret
      exact ⟨rfl, hb6.trans (hb7.mono hb6.size)⟩
    | true =>
      have HTK := Lib.hid (actsB_take (HV.out.symm) (l.length / 2))
      have hq : ((l.length : Int) / 2).toNat = l.length / 2 := by omega
      have hq2 : l.length / 2 ≤ c := by omega
      have hr3h := hr3.cut (m := l.length / 2) (by omega)
      go_wp2_with fail
      refine (actionsValid_impl _ _ c (l.take (l.length / 2)) _ hr3h).mono ?_; rintro e w8 ⟨rfl, hb8'⟩
      have hr8 := hr3.below hb8'
      have hb8 := hb3.trans (hb8'.mono hb3.size)
      clear hr3 hb8' hb3 hr3h
      rw [HTK.out]
      clear hq hq2
      have hown0 : Own (w8.alloc (.cells #[] 24)) w8.heap.size 24 4 (.slice (some ⟨w8.heap.size, 0, none⟩) 0 0) 0 [] := own_lit 24 4 #[] 0 (Nat.le_refl _) (by simp) rfl
      have hbl := (Below.refl w8.heap.size w8).alloc (Nat.le_refl _) (.cells #[] 24)
      have HNW := Lib.hid (hr8.below hbl).news
      go_wp2_with (at_builtin; refine wpList_append_rows (by first | rfl | simp [Region.wanted, yielded]) _ _ 29 rfl w8.heap.size 24 (.agg #[.int .i64 0, .int .i64 0, .int .i64 0, .int .i64 0]) 4 32 Try.underlying29 infoActS rfl (by decide) _ _ _ (flatA l) (by rfl) hown0 (some ⟨g, 0, none⟩) l.length c (by rfl) (fun he => by cases he) ?q1 HNW.out ?q2 ?q3 (by decide) ?q4 ?_)
      case q1 => exact flatA_len l
      case q2 => exact flatA_one l
      case q3 => omega
      case q4 => simp
      intro v4 w4 ho4 hg4
      have hbx : Below w8.heap.size w8 w4 := hbl.grown hg4 (by simp) (fun k hk => (hown0.1.lt k hk).1)
      try simp only [Nat.zero_add, List.nil_append] at ho4
      clear hg4 hown0 hbl
      go_wp2_with (at_builtin; refine wpList_append_one (by first | rfl | simp [Region.wanted, yielded]) _ _ 29 rfl w8.heap.size 24 _ (.agg #[.int .i64 0, .int .i64 0, .int .i64 0, .int .i64 0]) 4 32 Try.underlying29 infoActS rfl (by decide) _ _ _ [.int .i64 0, .int .i64 0, .int .i64 0, .int .i64 0] (by rfl) ho4 (by rfl) rfl ?q5 ?q6 (by decide) ?q7 ?_)
      case q5 => exact celA_one noA
      case q6 => omega
      case q7 => exact hbx.size
      intro v5 w5 ho5 hg5
      have hb5x : Below w8.heap.size w8 w5 := (hbx.alloc hbx.size _).grown hg5 (by have := hbx.size; simp; omega) (fun k hk => (ho4.1.lt k hk).1)
      have hb5 := hb8.trans (hb5x.mono hb8.size)
      have ho6 : Own w5 w8.heap.size 24 4 v5 (l ++ [noA]).length (flatA (l ++ [noA])) := by
        rw [List.length_append, flatA_append]; exact ho5
      obtain ⟨g5, c5, rfl, -, -, hr5, hl5⟩ := rowA_of_own ho6 (by simp; omega) (HWF.out.snoc ⟨by decide, by decide, by decide, by decide⟩)
      have HLE := Lib.hid (show (l ++ [noA]).length = l.length + 1 by simp)
      rw [HLE.out] at hr5 hl5
      have HF := Lib.hid (actsB_zero l)
      have hv5 : (Value.slice (some ⟨g5, 0, none⟩) (l ++ [noA]).length c5) = .slice (some ⟨g5, 0, none⟩) (l.length + 1) c5 := by rw [HLE.out]
      rw [hv5]
      clear ho4 ho5 ho6 hg5 hbx hb5x hv5
      go_wp2_with fail
      refine (actionsValid_impl _ _ c5 (l ++ [noA]) _ hr5).mono ?_; rintro e w6 ⟨rfl, hb6'⟩
      have hb6 := hb5.trans (hb6'.mono hb5.size)
      rw [HF.out]
      clear hr5 hb6'
      go_wp2_with fail
      refine (alive_any _).mono ?_; rintro e w7 ⟨rfl, hb7⟩
      go_wp2
      go_ret
      exact ⟨rfl, hb6.trans (hb7.mono hb6.size)⟩
  · have hs' : (1048576 : Int) < (len : Int) := by omega
    clear h hlc
    go_enter Try.func4, Try.ntmps4
    go_wp2
    go_ret
    exact ⟨rfl, Below.refl _ _⟩
end Go.Proofs.Ytpjknhfcfhmmnaa

/- The walks of the exact laws of chapter 2 that answer a bool or a number. -/
import Derived.Test.YtmblmmbcdmmpcaaImplChanged
import Derived.Test.YtmblmmbcdmmpcaaConvE
namespace Go.Proofs.Ytmblmmbcdmmpcaa
open Go.RowKit
set_option linter.unusedVariables false
theorem drawn_size {w w' : World} (h : Drawn w w') : w.heap.size ≤ w'.heap.size := (h.below 0).size
set_option maxHeartbeats 1000000 in
theorem lawExactStoreValid (a : Option Addr) (n cap : Nat) (l : List Ent) (w : World) (h : RowE w a n l) (hc : a = none → cap = 0) (hlc : n ≤ cap) :
    Calls Try.prog 9 #[.slice a n cap] w (LawTrue w) := by
  have hm := h.2.1
  go_enter Try.func9, Try.ntmps9
  go_wp2_with fail
  refine (szEntryS_any a n cap 1048576 _ (by omega) (by omega) hm).mono ?_; rintro e w' ⟨rfl, rfl⟩
  by_cases hs : (n : Int) ≤ 1048576
  · rw [if_pos hs]
    have hsz : n ≤ 1048576 := by omega
    obtain rfl := h.1
    go_wp2_with fail
    refine (toEntryS_any a _ cap l _ h hsz).mono ?_; rintro e w1 ⟨v1, rfl, ho1, hw1, hb1⟩
    obtain ⟨g1, c1, rfl, -, hr1⟩ := rowE_of_own ho1 (by omega) hw1
    clear ho1
    go_wp2_with fail
    refine (storeValid_spec _ _ c1 l _ hr1).mono ?_; rintro e w2 ⟨rfl, hd2⟩
    have hb2 := hb1.trans (hd2.below _)
    go_wp2_with fail
    refine (toEntryS_any a _ cap l _ (h.below hb2) hsz).mono ?_; rintro e w3 ⟨v3, rfl, ho3, hw3, hb3'⟩
    have hb3 := hb2.trans (hb3'.mono hb2.size)
    obtain ⟨g3, c3, rfl, -, hr3⟩ := rowE_of_own ho3 (by omega) hw3
    clear ho3
    go_wp2_with fail
    refine (storeValid_impl _ _ c3 l _ hr3).mono ?_; rintro e w4 ⟨rfl, hd4⟩
    have hb4 := hb3.trans (hd4.mono hb3.size)
    have hr4 := hr3.below hd4
    obtain ⟨sb, hsb⟩ : ∃ sb, sb = storeB l := ⟨_, rfl⟩
    rw [← hsb]
    clear hsb hr3 hr1 hd2 hd4
    have hne : (sb != sb) = false := by simp
    go_wp2_with fail
    refine (toEntryS_any a _ cap l _ (h.below hb4) hsz).mono ?_; rintro e w5 ⟨v5, rfl, ho5, hw5, hb5'⟩
    obtain ⟨g5, c5, rfl, -, hr5⟩ := rowE_of_own ho5 (by omega) hw5
    have hb5 := hb4.trans (hb5'.mono hb4.size)
    clear ho5
    go_wp2_with fail
    refine (eqEntryS_same _ _ _ c3 c5 l _ (hr4.below hb5') hr5).mono ?_; rintro e w6 ⟨rfl, hb6'⟩
    have hb6 := hb5.trans (hb6'.mono hb5.size)
    go_wp2
    go_ret
    exact ⟨rfl, hb6⟩
  · rw [if_neg hs]
    go_wp2
    go_ret
    exact ⟨rfl, Below.refl _ _⟩
set_option maxHeartbeats 1000000 in
theorem lawExactValueAt (a : Option Addr) (n cap : Nat) (l : List Ent) (key : Int) (w : World) (h : RowE w a n l) (hc : a = none → cap = 0) (hlc : n ≤ cap) (hkey : (Lit.int .i64 key).wf = true) :
    Calls Try.prog 10 #[.slice a n cap, .int .i64 key] w (LawTrue w) := by
  have hm := h.2.1
  go_enter Try.func10, Try.ntmps10
  go_wp2_with fail
  refine (szEntryS_any a n cap 1048576 _ (by omega) (by omega) hm).mono ?_; rintro e w' ⟨rfl, rfl⟩
  by_cases hs : (n : Int) ≤ 1048576
  · rw [if_pos hs]
    have hsz : n ≤ 1048576 := by omega
    obtain rfl := h.1
    go_wp2_with fail
    refine (toEntryS_any a _ cap l _ h hsz).mono ?_; rintro e w1 ⟨v1, rfl, ho1, hw1, hb1⟩
    obtain ⟨g1, c1, rfl, -, hr1⟩ := rowE_of_own ho1 (by omega) hw1
    clear ho1
    go_wp2_with fail
    refine (valueAt_spec _ _ c1 l key _ hr1).mono ?_; rintro e w2 ⟨rfl, hd2⟩
    have hb2 := hb1.trans (hd2.below _)
    go_wp2_with fail
    refine (toEntryS_any a _ cap l _ (h.below hb2) hsz).mono ?_; rintro e w3 ⟨v3, rfl, ho3, hw3, hb3'⟩
    have hb3 := hb2.trans (hb3'.mono hb2.size)
    obtain ⟨g3, c3, rfl, -, hr3⟩ := rowE_of_own ho3 (by omega) hw3
    clear ho3
    go_wp2_with fail
    refine (valueAt_impl _ _ c3 l key _ hr3).mono ?_; rintro e w4 ⟨rfl, hd4⟩
    have hb4 := hb3.trans (hd4.mono hb3.size)
    have hr4 := hr3.below hd4
    obtain ⟨sb, hsb⟩ : ∃ sb, sb = valueM l key := ⟨_, rfl⟩
    rw [← hsb]
    clear hsb hr3 hr1 hd2 hd4
    have hne : (sb != sb) = false := by simp
    go_wp2_with fail
    refine (toEntryS_any a _ cap l _ (h.below hb4) hsz).mono ?_; rintro e w5 ⟨v5, rfl, ho5, hw5, hb5'⟩
    obtain ⟨g5, c5, rfl, -, hr5⟩ := rowE_of_own ho5 (by omega) hw5
    have hb5 := hb4.trans (hb5'.mono hb4.size)
    clear ho5
    go_wp2_with fail
    refine (eqEntryS_same _ _ _ c3 c5 l _ (hr4.below hb5') hr5).mono ?_; rintro e w6 ⟨rfl, hb6'⟩
    have hb6 := hb5.trans (hb6'.mono hb5.size)
    go_wp2
    go_ret
    exact ⟨rfl, hb6⟩
  · rw [if_neg hs]
    go_wp2
    go_ret
    exact ⟨rfl, Below.refl _ _⟩
set_option maxHeartbeats 1000000 in
theorem lawExactStoreTotal (a : Option Addr) (n cap : Nat) (l : List Ent) (w : World) (h : RowE w a n l) (hc : a = none → cap = 0) (hlc : n ≤ cap) :
    Calls Try.prog 12 #[.slice a n cap] w (LawTrue w) := by
  have hm := h.2.1
  go_enter Try.func12, Try.ntmps12
  go_wp2_with fail
  refine (szEntryS_any a n cap 1048576 _ (by omega) (by omega) hm).mono ?_; rintro e w' ⟨rfl, rfl⟩
  by_cases hs : (n : Int) ≤ 1048576
  · rw [if_pos hs]
    have hsz : n ≤ 1048576 := by omega
    obtain rfl := h.1
    go_wp2_with fail
    refine (toEntryS_any a _ cap l _ h hsz).mono ?_; rintro e w1 ⟨v1, rfl, ho1, hw1, hb1⟩
    obtain ⟨g1, c1, rfl, -, hr1⟩ := rowE_of_own ho1 (by omega) hw1
    clear ho1
    go_wp2_with fail
    refine (storeTotal_spec _ _ c1 l _ hr1).mono ?_; rintro e w2 ⟨rfl, hd2⟩
    have hb2 := hb1.trans (hd2.below _)
    go_wp2_with fail
    refine (toEntryS_any a _ cap l _ (h.below hb2) hsz).mono ?_; rintro e w3 ⟨v3, rfl, ho3, hw3, hb3'⟩
    have hb3 := hb2.trans (hb3'.mono hb2.size)
    obtain ⟨g3, c3, rfl, -, hr3⟩ := rowE_of_own ho3 (by omega) hw3
    clear ho3
    go_wp2_with fail
    refine (storeTotal_impl _ _ c3 l _ hr3).mono ?_; rintro e w4 ⟨rfl, hd4⟩
    have hb4 := hb3.trans (hd4.mono hb3.size)
    have hr4 := hr3.below hd4
    obtain ⟨sb, hsb⟩ : ∃ sb, sb = totalM l := ⟨_, rfl⟩
    rw [← hsb]
    clear hsb hr3 hr1 hd2 hd4
    have hne : (sb != sb) = false := by simp
    go_wp2_with fail
    refine (toEntryS_any a _ cap l _ (h.below hb4) hsz).mono ?_; rintro e w5 ⟨v5, rfl, ho5, hw5, hb5'⟩
    obtain ⟨g5, c5, rfl, -, hr5⟩ := rowE_of_own ho5 (by omega) hw5
    have hb5 := hb4.trans (hb5'.mono hb4.size)
    clear ho5
    go_wp2_with fail
    refine (eqEntryS_same _ _ _ c3 c5 l _ (hr4.below hb5') hr5).mono ?_; rintro e w6 ⟨rfl, hb6'⟩
    have hb6 := hb5.trans (hb6'.mono hb5.size)
    go_wp2
    go_ret
    exact ⟨rfl, hb6⟩
  · rw [if_neg hs]
    go_wp2
    go_ret
    exact ⟨rfl, Below.refl _ _⟩
end Go.Proofs.Ytmblmmbcdmmpcaa

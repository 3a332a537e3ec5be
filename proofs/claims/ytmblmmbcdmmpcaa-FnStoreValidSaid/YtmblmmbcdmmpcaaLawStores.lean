/- The walks of the laws FnStoreValid, FnValueAt, FnStoreTotal. -/
import Derived.Test.YtmblmmbcdmmpcaaDrawStores
import Derived.Test.YtmblmmbcdmmpcaaImplChanged
import Derived.Test.YtmblmmbcdmmpcaaStoreLaws
import Derived.Test.YtmblmmbcdmmpcaaConvE
import Derived.Test.YtmblmmbcdmmpcaaAlive
namespace Go.Proofs.Ytmblmmbcdmmpcaa
open Go.RowKit
set_option linter.unusedVariables false
set_option maxHeartbeats 4000000 in
theorem lawStoreValid (a : Option Addr) (len cap : Nat) (z : List Int) (w : World) (h : RowB w a len z) (hc : a = none → cap = 0) (hlc : len ≤ cap) :
    Calls Try.prog 3 #[.slice a len cap] w (LawTrue w) := by
  by_cases hs : len ≤ 1048576
  · have hs' : ¬ (1048576 : Int) < (len : Int) := by omega
    go_enter Try.func3, Try.ntmps3
    go_wp2_with fail
    refine (drawStoreValid_any a len cap z w h hlc).mono ?_; rintro e w1 ⟨v, l, rfl, hown, hwf, hlen, hb1⟩
    obtain ⟨g, c, rfl, hg, hr⟩ := rowE_of_own hown (by omega) hwf
    have hlc : l.length ≤ c := by
      rcases hown.1.2 with ⟨h1, _⟩ | ⟨g', c', cur, h1, _, _, h2, _⟩
      · simp at h1
      · simp at h1; omega
    clear h hs hs' hown
    go_wp2_with fail
    refine (storeValid_impl _ _ c l _ hr).mono ?_; rintro e w2 ⟨rfl, hd2⟩
    have hr2 := hr.below hd2
    have hb2 := hb1.trans (hd2.mono hb1.size)
    clear hr hd2
    go_wp2_with fail
    refine (storeValid_spec _ _ c l _ hr2).mono ?_; rintro e w3 ⟨rfl, hd3⟩
    have hr3 := hr2.below (hd3.below _)
    have hb3 := hb2.trans (hd3.below _)
    clear hr2 hd3 hb1
    have hbad := store_bad32 l
    cases hsb : storeB l with
    | false =>
      have hown0 : Own (w3.alloc (.cells #[] 27)) w3.heap.size 27 2 (.slice (some ⟨w3.heap.size, 0, none⟩) 0 0) 0 [] := own_lit 27 2 #[] 0 (Nat.le_refl _) (by simp) rfl
      have hnews := (hr3.below ((Below.refl w3.heap.size w3).alloc (Nat.le_refl _) (.cells #[] 27))).news
      go_wp2_with (at_builtin; refine wpList_append_rows (by first | rfl | simp [Region.wanted, yielded]) _ _ 23 rfl w3.heap.size 27 (.agg #[.int .i64 0, .int .i64 0]) 2 16 Try.underlying23 infoEnt rfl (by decide) _ _ _ (flatE l) (by rfl) hown0 (some ⟨g, 0, none⟩) l.length c (by rfl) (fun h => by cases h) ?f2 hnews (flatE_oneCell l) ?f5 (by decide) ?f6 ?_)
      case f2 => exact flatE_len l
      case f5 => omega
      case f6 => simp
      intro v4 w4 ho4 hg4
      have hb4 : Below w.heap.size w w4 := (hb3.alloc hb3.size _).grown hg4 (by have := hb3.size; simp; omega) (fun k hk => by have := (hown0.1.lt k hk).1; have := hb3.size; omega)
      try simp only [Nat.zero_add, List.nil_append] at ho4
      have hs4 : w3.heap.size ≤ w4.heap.size := by have := hg4.size; simp at this; omega
      clear hg4 hnews hown0
      go_wp2_with (at_builtin; refine wpList_append_one (by first | rfl | simp [Region.wanted, yielded]) _ _ 23 rfl w3.heap.size 27 _ (.agg #[.int .i64 0, .int .i64 0]) 2 16 Try.underlying23 infoEnt rfl (by decide) _ _ _ [.int .i64 32, .int .i64 1] (by rfl) ho4 (by rfl) rfl ?c11 ?c21 (by decide) ?c31 ?_)
      case c11 => intro u hu; simp at hu; rcases hu with rfl | rfl <;> rfl
      case c21 => omega
      case c31 => exact hs4
      intro v5 w5 ho5 hg5
      have hb5 : Below w.heap.size w w5 := (hb4.alloc hb4.size _).grown hg5 (by have := hb4.size; simp; omega) (fun k hk => by have := (ho4.1.lt k hk).1; have := hb3.size; omega)
      have ho5' : Own w5 w3.heap.size 27 2 v5 (l ++ [(32, 1)]).length (flatE (l ++ [(32, 1)])) := by rw [flatE_append, List.length_append]; exact ho5
      obtain ⟨g5, c5, hv5, -, hr5⟩ := rowE_of_own ho5' (by simp; omega) (hwf.snoc (by decide) (by decide))
      clear ho4 ho5 hg5 ho5'
      rw [show (l ++ [((32 : Int), (1 : Int))]).length = l.length + 1 by simp] at hv5 hr5
      rw [hv5]
      clear hv5
      go_wp2_with fail
      refine (storeValid_impl _ _ c5 (l ++ [(32, 1)]) _ hr5).mono ?_; rintro e w6 ⟨rfl, hd6⟩
      have hb6 := hb5.trans (hd6.mono hb5.size)
      rw [hbad]
      go_wp2_with fail
      refine (alive_any _).mono ?_; rintro e w7 ⟨rfl, hb7⟩
      go_wp2
      go_ret
      exact ⟨rfl, hb6.trans (hb7.mono hb6.size)⟩
    | true =>
      have htk := store_take hsb (l.length / 2)
      have hq : ((l.length : Int) / 2).toNat = l.length / 2 := by omega
      have hq2 : l.length / 2 ≤ c := by omega
      go_wp2_with fail
      refine (storeValid_impl _ _ c (l.take (l.length / 2)) _ (hr3.cut (m := l.length / 2) (by omega))).mono ?_; rintro e w8 ⟨rfl, hd8⟩
      have hr8 := hr3.below hd8
      have hb8 := hb3.trans (hd8.mono hb3.size)
      clear hr3 hd8 hb3
      rw [htk]
      have hown0 : Own (w8.alloc (.cells #[] 27)) w8.heap.size 27 2 (.slice (some ⟨w8.heap.size, 0, none⟩) 0 0) 0 [] := own_lit 27 2 #[] 0 (Nat.le_refl _) (by simp) rfl
      have hnews := (hr8.below ((Below.refl w8.heap.size w8).alloc (Nat.le_refl _) (.cells #[] 27))).news
      go_wp2_with (at_builtin; refine wpList_append_rows (by first | rfl | simp [Region.wanted, yielded]) _ _ 23 rfl w8.heap.size 27 (.agg #[.int .i64 0, .int .i64 0]) 2 16 Try.underlying23 infoEnt rfl (by decide) _ _ _ (flatE l) (by rfl) hown0 (some ⟨g, 0, none⟩) l.length c (by rfl) (fun h => by cases h) ?f2 hnews (flatE_oneCell l) ?f5 (by decide) ?f6 ?_)
      case f2 => exact flatE_len l
      case f5 => omega
      case f6 => simp
      intro v4 w4 ho4 hg4
      have hb4 : Below w.heap.size w w4 := (hb8.alloc hb8.size _).grown hg4 (by have := hb8.size; simp; omega) (fun k hk => by have := (hown0.1.lt k hk).1; have := hb8.size; omega)
      try simp only [Nat.zero_add, List.nil_append] at ho4
      have hs4 : w8.heap.size ≤ w4.heap.size := by have := hg4.size; simp at this; omega
      clear hg4 hnews hown0
      go_wp2_with (at_builtin; refine wpList_append_one (by first | rfl | simp [Region.wanted, yielded]) _ _ 23 rfl w8.heap.size 27 _ (.agg #[.int .i64 0, .int .i64 0]) 2 16 Try.underlying23 infoEnt rfl (by decide) _ _ _ [.int .i64 32, .int .i64 1] (by rfl) ho4 (by rfl) rfl ?c11 ?c21 (by decide) ?c31 ?_)
      case c11 => intro u hu; simp at hu; rcases hu with rfl | rfl <;> rfl
      case c21 => omega
      case c31 => exact hs4
      intro v5 w5 ho5 hg5
      have hb5 : Below w.heap.size w w5 := (hb4.alloc hb4.size _).grown hg5 (by have := hb4.size; simp; omega) (fun k hk => by have := (ho4.1.lt k hk).1; have := hb8.size; omega)
      have ho5' : Own w5 w8.heap.size 27 2 v5 (l ++ [(32, 1)]).length (flatE (l ++ [(32, 1)])) := by rw [flatE_append, List.length_append]; exact ho5
      obtain ⟨g5, c5, hv5, -, hr5⟩ := rowE_of_own ho5' (by simp; omega) (hwf.snoc (by decide) (by decide))
      clear ho4 ho5 hg5 ho5'
      rw [show (l ++ [((32 : Int), (1 : Int))]).length = l.length + 1 by simp] at hv5 hr5
      rw [hv5]
      clear hv5
      go_wp2_with fail
      refine (storeValid_impl _ _ c5 (l ++ [(32, 1)]) _ hr5).mono ?_; rintro e w6 ⟨rfl, hd6⟩
      have hb6 := hb5.trans (hd6.mono hb5.size)
      rw [hbad]
      go_wp2_with fail
      refine (alive_any _).mono ?_; rintro e w7 ⟨rfl, hb7⟩
      go_wp2
      go_ret
      exact ⟨rfl, hb6.trans (hb7.mono hb6.size)⟩
  · have hs' : (1048576 : Int) < (len : Int) := by omega
    clear h hlc
    go_enter Try.func3, Try.ntmps3
    go_wp2
    go_ret
    exact ⟨rfl, Below.refl _ _⟩
end Go.Proofs.Ytmblmmbcdmmpcaa

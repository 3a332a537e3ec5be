/- The walks of the laws FnLayersValid, FnLayerRead. -/
import Derived.Test.YtcaombogffmopaaDrawF
import Derived.Test.YtcaombogffmopaaFour
import Derived.Test.YtcaombogffmopaaConvF
import Derived.Test.YtcaombogffmopaaLay
import Derived.Test.YtcaombogffmopaaOne
namespace Go.Proofs.Ytcaombogffmopaa
open Go.RowKit
set_option linter.unusedVariables false
/-- The cells xs are those of the layers L. -/
def CellsL (w : World) (xs : List Value) (L : List Lay) : Prop :=
  xs.length = L.length * 2 ∧ ∀ i, i < L.length → ∃ x, xs[i * 2]? = some (.int .i64 (L.getD i (0, [])).1) ∧ xs[i * 2 + 1]? = some x ∧ SliE w x (L.getD i (0, [])).2
theorem sliE_one {w : World} {x : Value} {l : List Ent} (h : SliE w x l) : x.oneCell' = true := by obtain ⟨a, n, c, rfl, _⟩ := h; rfl
theorem CellsL.below {w w' : World} {xs : List Value} {L : List Lay} (h : CellsL w xs L) (hb : Below w.heap.size w w') : CellsL w' xs L :=
  ⟨h.1, fun i hi => by obtain ⟨x, h1, h2, h3⟩ := h.2 i hi; exact ⟨x, h1, h2, h3.below hb⟩⟩
theorem CellsL.one {w : World} {xs : List Value} {L : List Lay} (h : CellsL w xs L) : ∀ u ∈ xs, u.oneCell' = true := by
  intro u hu
  obtain ⟨j, hj⟩ := List.getElem?_of_mem hu
  have hlt := (List.getElem?_eq_some_iff.1 hj).1
  rw [h.1] at hlt
  obtain ⟨x, h1, h2, h3⟩ := h.2 (j / 2) (by omega)
  rcases (by omega : j = j / 2 * 2 ∨ j = j / 2 * 2 + 1) with e | e
  · rw [← e, hj] at h1; cases h1; rfl
  · rw [← e, hj] at h2; cases h2; exact sliE_one h3
theorem cells_upto {w : World} {a : Option Addr} {n : Nat} {L : List Lay} (h : RowL w a n L) : ∀ k, k ≤ n → ∃ xs : List Value, xs.length = k * 2 ∧ (∀ i, i < k → ∃ x, xs[i * 2]? = some (.int .i64 (L.getD i (0, [])).1) ∧ xs[i * 2 + 1]? = some x ∧ SliE w x (L.getD i (0, [])).2) ∧
    ∀ b off, a = some ⟨b, off, none⟩ → ∀ j u, xs[j]? = some u → w.cell? ⟨b, off + j, none⟩ = some u := by
  intro k
  induction k with
  | zero => intro _; exact ⟨[], rfl, fun i hi => by omega, fun b off _ j u hu => by simp at hu⟩
  | succ k ih =>
    intro hk
    obtain ⟨xs, h1, h2, h3⟩ := ih (by omega)
    obtain ⟨b, off, rfl, hc⟩ := h.2.2.1 (by omega)
    obtain ⟨c1, x, c2, hs⟩ := hc k (by omega)
    refine ⟨xs ++ [.int .i64 (L.getD k (0, [])).1, x], by simp [h1]; omega, fun i hi => ?_, fun b' off' he j u hu => ?_⟩
    · by_cases hik : i < k
      · obtain ⟨y, g1, g2, g3⟩ := h2 i hik
        exact ⟨y, by rw [List.getElem?_append_left (by omega)]; exact g1, by rw [List.getElem?_append_left (by omega)]; exact g2, g3⟩
      · obtain rfl : i = k := by omega
        refine ⟨x, ?_, ?_, hs⟩
        · rw [List.getElem?_append_right (by omega), h1, Nat.sub_self]; rfl
        · rw [List.getElem?_append_right (by omega), h1, show i * 2 + 1 - i * 2 = 1 by omega]; rfl
    · have hbe := Option.some.inj he
      simp only [Addr.mk.injEq, and_true] at hbe
      obtain ⟨rfl, rfl⟩ := hbe
      by_cases hj : j < xs.length
      · rw [List.getElem?_append_left hj] at hu; exact h3 b off rfl j u hu
      · rw [List.getElem?_append_right (by omega), h1] at hu
        match hq : j - k * 2, hu with
        | 0, hu => simp at hu; subst hu; rw [show off + j = off + k * 2 by omega]; exact c1
        | 1, hu => simp at hu; subst hu; rw [show off + j = off + k * 2 + 1 by omega]; exact c2
        | q + 2, hu => simp at hu
/-- The cells of a row of layers, where append looks for them. -/
theorem RowL.cells {w : World} {a : Option Addr} {n : Nat} {L : List Lay} (h : RowL w a n L) : ∃ xs, CellsL w xs L ∧ ∀ ad, a = some ad → ∀ j u, xs[j]? = some u → w.cell? (ad.add j) = some u := by
  obtain ⟨xs, h1, h2, h3⟩ := cells_upto h n (Nat.le_refl _)
  refine ⟨xs, ⟨by rw [h.1]; exact h1, fun i hi => h2 i (by rw [← h.1]; exact hi)⟩, fun ad he j u hu => ?_⟩
  have hn : 0 < n := by
    have := (List.getElem?_eq_some_iff.1 hu).1; omega
  obtain ⟨b, off, rfl, -⟩ := h.2.2.1 hn
  obtain rfl := Option.some.inj he
  rw [show (⟨b, off, none⟩ : Addr).add j = ⟨b, off + j, none⟩ by unfold Addr.add; split <;> simp_all]
  exact h3 b off rfl j u hu
theorem CellsL.snoc {w : World} {xs : List Value} {L : List Lay} (h : CellsL w xs L) (n : Int) : CellsL w (xs ++ [.int .i64 n, .slice none 0 0]) (L ++ [(n, [])]) := by
  refine ⟨by simp [h.1]; omega, fun i hi => ?_⟩
  rw [getD_snocL]
  by_cases hil : i < L.length
  · obtain ⟨x, h1, h2, h3⟩ := h.2 i hil
    rw [if_pos hil]
    exact ⟨x, by rw [List.getElem?_append_left (by rw [h.1]; omega)]; exact h1, by rw [List.getElem?_append_left (by rw [h.1]; omega)]; exact h2, h3⟩
  · have hi' : i = L.length := by simp at hi; omega
    rw [if_neg hil, if_pos hi']
    refine ⟨.slice none 0 0, ?_, ?_, none, 0, 0, rfl, rowE_empty _ _, fun _ => rfl, Nat.le_refl _⟩
    · rw [List.getElem?_append_right (by rw [h.1]; omega), h.1, show i * 2 - L.length * 2 = 0 by omega]; rfl
    · rw [List.getElem?_append_right (by rw [h.1]; omega), h.1, show i * 2 + 1 - L.length * 2 = 1 by omega]; rfl
/-- What is owned reads as the layers. -/
theorem rowL_of_cells {w : World} {B : Nat} {e : TypeId} {v : Value} {xs : List Value} {L : List Lay} (h : Own w B e 2 v L.length xs) (hc : CellsL w xs L) (hl : L.length ≤ 4000000) (hw : ∀ x ∈ L, (Lit.int .i64 x.1).wf = true) :
    ∃ g cap, v = .slice (some ⟨g, 0, none⟩) L.length cap ∧ RowL w (some ⟨g, 0, none⟩) L.length L ∧ L.length ≤ cap := by
  rcases slice_of_owns h.1 with ⟨h1, _⟩ | ⟨g, cap, rfl, hB, hg, hnc, hcm⟩
  · exact absurd h1 h.2
  · refine ⟨g, cap, rfl, ⟨rfl, by unfold maxLen; omega, fun _ => ⟨g, 0, rfl, fun i hi => ?_⟩, hw⟩, hnc⟩
    obtain ⟨x, h1, h2, h3⟩ := hc.2 i hi
    rw [Nat.zero_add]
    exact ⟨(h.1.cellAt (i * 2) (by omega)).trans h1, x, (h.1.cellAt (i * 2 + 1) (by omega)).trans h2, h3⟩
theorem RowL.cut {w : World} {a : Option Addr} {n m : Nat} {L : List Lay} (h : RowL w a n L) (hm : m ≤ n) : RowL w a m (L.take m) := by
  obtain ⟨h1, h2, h3, h4⟩ := h
  refine ⟨by rw [List.length_take]; omega, by omega, fun h0 => ?_, fun e he => h4 e (List.mem_of_mem_take he)⟩
  obtain ⟨b, off, he, hc⟩ := h3 (by omega)
  refine ⟨b, off, he, fun i hi => ?_⟩
  rw [getD_takeL L m i hi]
  exact hc i (by omega)
set_option maxRecDepth 100000 in
set_option maxHeartbeats 4000000 in
theorem lawLayersValid (a : Option Addr) (len cap : Nat) (z : List Int) (w : World) (h : RowB w a len z) (hc : a = none → cap = 0) (hlc : len ≤ cap) :
    Calls Try.prog 3 #[.slice a len cap] w (LawTrue w) := by
  by_cases hs : len ≤ 1048576
  · have hs' : ¬ (1048576 : Int) < (len : Int) := by omega
    go_enter Try.func3, Try.ntmps3
    go_wp2_with fail
    refine (drawLayersValid_any a len cap z w h hlc).mono ?_; rintro e w1 ⟨v, L, rfl, ⟨av, c, rfl, hr, hnil, hlen, hsm⟩, hb1⟩
    have hl20 := hsm.1
    clear h hs hs' hsm
    go_wp2_with fail
    refine (layersValid_impl _ _ c L _ hr hlen).mono ?_; rintro e w2 ⟨rfl, hd2⟩
    have hr2 := hr.below hd2
    have hb2 := hb1.trans (hd2.mono hb1.size)
    clear hr hd2
    go_wp2_with fail
    refine (layersValid_spec _ _ c L _ hr2).mono ?_; rintro e w3 ⟨rfl, hd3⟩
    have hr3 := hr2.below (hd3.below _)
    have hb3 := hb2.trans (hd3.below _)
    clear hr2 hd3 hb1
    have hbad := layersB_self L
    have hwL := hr3.2.2.2
    have hwS : ∀ x ∈ L ++ [((L.length : Int), ([] : List Ent))], (Lit.int .i64 x.1).wf = true := fun x hx => by
      rcases List.mem_append.1 hx with hx | hx
      · exact hwL x hx
      · simp at hx; subst hx; exact WalkArith.wf_i64 (by simp only; omega)
    have HWS := Lib.hid hwS
    have HBAD := Lib.hid hbad
    clear hwL hwS hbad
    have hnn : av = none → L.length = 0 ∧ c = 0 := fun he => ⟨by have := hnil he; omega, hnil he⟩
    have HNN := Lib.hid hnn
    clear hnn hnil
    cases hsb : layersB L with
    | false =>
      have hown0 : Own (w3.alloc (.cells #[] 28)) w3.heap.size 28 2 (.slice (some ⟨w3.heap.size, 0, none⟩) 0 0) 0 [] := own_lit 28 2 #[] 0 (Nat.le_refl _) (by simp) rfl
      obtain ⟨xs, hxs, hnw⟩ := hr3.cells
      have hbl := (Below.refl w3.heap.size w3).alloc (Nat.le_refl _) (.cells #[] 28)
      have hnews : ∀ ad, av = some ad → ∀ j u, xs[j]? = some u → (w3.alloc (.cells #[] 28)).cell? (ad.add j) = some u := fun ad he j u hu => (hbl.cell (World.block_lt_of_cell? _ _ (hnw ad he j u hu))).trans (hnw ad he j u hu)
      have HXS := Lib.hid hxs
      go_wp2_with (at_builtin; refine wpList_append_rows (by first | rfl | simp [Region.wanted, yielded]) _ _ 23 rfl w3.heap.size 28 (.agg #[.int .i64 0, .slice none 0 0]) 2 32 Try.underlying23 infoLayC rfl (by decide) _ _ _ xs (by rfl) hown0 av L.length c (by rfl) HNN.out ?f2 hnews ?f3 ?f5 (by decide) ?f6 ?_)
      case f2 => exact HXS.out.1
      case f3 => exact HXS.out.one
      case f5 => omega
      case f6 => simp
      intro v4 w4 ho4 hg4
      have hbx : Below w3.heap.size w3 w4 := hbl.grown hg4 (by simp) (fun k hk => (hown0.1.lt k hk).1)
      try simp only [Nat.zero_add, List.nil_append] at ho4
      clear hg4 hnews hown0 hnw hbl
      go_wp2_with (at_builtin; refine wpList_append_one (by first | rfl | simp [Region.wanted, yielded]) _ _ 23 rfl w3.heap.size 28 _ (.agg #[.int .i64 0, .slice none 0 0]) 2 32 Try.underlying23 infoLayC rfl (by decide) _ _ _ [.int .i64 (L.length : Int), .slice none 0 0] (by rfl) ho4 (by rfl) rfl ?c11 ?c21 (by decide) ?c31 ?_)
      case c11 => intro u hu; simp at hu; rcases hu with rfl | rfl <;> rfl
      case c21 => omega
      case c31 => exact hbx.size
      intro v5 w5 ho5 hg5
      have hb5x : Below w3.heap.size w3 w5 := (hbx.alloc hbx.size _).grown hg5 (by have := hbx.size; simp; omega) (fun k hk => (ho4.1.lt k hk).1)
      have hb5 := hb3.trans (hb5x.mono hb3.size)
      have hle : (L ++ [((L.length : Int), ([] : List Ent))]).length = L.length + 1 := by simp
      obtain ⟨g5, c5, hv5, hr5, hl5⟩ := rowL_of_cells (L := L ++ [((L.length : Int), [])]) (by rw [hle]; exact ho5) ((HXS.out.below hb5x).snoc (L.length : Int)) (by omega) HWS.out
      rw [hle] at hv5 hr5 hl5
      rw [hv5]
      clear ho4 ho5 hg5 hv5 hle hbx hb5x
      go_wp2_with fail
      refine (layersValid_impl _ _ c5 (L ++ [((L.length : Int), [])]) _ hr5 hl5).mono ?_; rintro e w6 ⟨rfl, hd6⟩
      have hb6 := hb5.trans (hd6.mono hb5.size)
      rw [HBAD.out]
      go_wp2_with fail
      refine (alive_any _).mono ?_; rintro e w7 ⟨rfl, hb7⟩
      go_wp2
      go_ret
      exact ⟨rfl, hb6.trans (hb7.mono hb6.size)⟩
    | true =>
      have htk := Lib.hid (layersB_take hsb (L.length / 2))
      have hq : ((L.length : Int) / 2).toNat = L.length / 2 := by omega
      have hq2 : L.length / 2 ≤ c := by omega
      go_wp2_with fail
      refine (layersValid_impl _ _ c (L.take (L.length / 2)) _ (hr3.cut (m := L.length / 2) (by omega)) hq2).mono ?_; rintro e w8 ⟨rfl, hd8⟩
      have hr8 := hr3.below hd8
      have hb8 := hb3.trans (hd8.mono hb3.size)
      clear hr3 hd8 hb3
      rw [htk.out]
      clear hq hq2
      have hown0 : Own (w8.alloc (.cells #[] 28)) w8.heap.size 28 2 (.slice (some ⟨w8.heap.size, 0, none⟩) 0 0) 0 [] := own_lit 28 2 #[] 0 (Nat.le_refl _) (by simp) rfl
      obtain ⟨xs, hxs, hnw⟩ := hr8.cells
      have hbl := (Below.refl w8.heap.size w8).alloc (Nat.le_refl _) (.cells #[] 28)
      have hnews : ∀ ad, av = some ad → ∀ j u, xs[j]? = some u → (w8.alloc (.cells #[] 28)).cell? (ad.add j) = some u := fun ad he j u hu => (hbl.cell (World.block_lt_of_cell? _ _ (hnw ad he j u hu))).trans (hnw ad he j u hu)
      have HXS := Lib.hid hxs
      go_wp2_with (at_builtin; refine wpList_append_rows (by first | rfl | simp [Region.wanted, yielded]) _ _ 23 rfl w8.heap.size 28 (.agg #[.int .i64 0, .slice none 0 0]) 2 32 Try.underlying23 infoLayC rfl (by decide) _ _ _ xs (by rfl) hown0 av L.length c (by rfl) HNN.out ?f2 hnews ?f3 ?f5 (by decide) ?f6 ?_)
      case f2 => exact HXS.out.1
      case f3 => exact HXS.out.one
      case f5 => omega
      case f6 => simp
      intro v4 w4 ho4 hg4
      have hbx : Below w8.heap.size w8 w4 := hbl.grown hg4 (by simp) (fun k hk => (hown0.1.lt k hk).1)
      try simp only [Nat.zero_add, List.nil_append] at ho4
      clear hg4 hnews hown0 hnw hbl
      go_wp2_with (at_builtin; refine wpList_append_one (by first | rfl | simp [Region.wanted, yielded]) _ _ 23 rfl w8.heap.size 28 _ (.agg #[.int .i64 0, .slice none 0 0]) 2 32 Try.underlying23 infoLayC rfl (by decide) _ _ _ [.int .i64 (L.length : Int), .slice none 0 0] (by rfl) ho4 (by rfl) rfl ?c11 ?c21 (by decide) ?c31 ?_)
      case c11 => intro u hu; simp at hu; rcases hu with rfl | rfl <;> rfl
      case c21 => omega
      case c31 => exact hbx.size
      intro v5 w5 ho5 hg5
      have hb5x : Below w8.heap.size w8 w5 := (hbx.alloc hbx.size _).grown hg5 (by have := hbx.size; simp; omega) (fun k hk => (ho4.1.lt k hk).1)
      have hb5 := hb8.trans (hb5x.mono hb8.size)
      have hle : (L ++ [((L.length : Int), ([] : List Ent))]).length = L.length + 1 := by simp
      obtain ⟨g5, c5, hv5, hr5, hl5⟩ := rowL_of_cells (L := L ++ [((L.length : Int), [])]) (by rw [hle]; exact ho5) ((HXS.out.below hb5x).snoc (L.length : Int)) (by omega) HWS.out
      rw [hle] at hv5 hr5 hl5
      rw [hv5]
      clear ho4 ho5 hg5 hv5 hle hbx hb5x
      go_wp2_with fail
      refine (layersValid_impl _ _ c5 (L ++ [((L.length : Int), [])]) _ hr5 hl5).mono ?_; rintro e w6 ⟨rfl, hd6⟩
      have hb6 := hb5.trans (hd6.mono hb5.size)
      rw [HBAD.out]
      go_wp2_with fail
      refine (alive_any _).mono ?_; rintro e w7 ⟨rfl, hb7⟩
      go_wp2
      go_ret
      exact ⟨rfl, hb6.trans (hb7.mono hb6.size)⟩
  · have hs' : (1048576 : Int) < (len : Int) := by omega
    clear h hlc
    go_enter Try.func3, Try.ntmps3
    go_wp2
    go_ret
    exact ⟨rfl, Below.refl _ _⟩
set_option maxHeartbeats 4000000 in
theorem lawLayerRead (a : Option Addr) (len cap : Nat) (z : List Int) (w : World) (h : RowB w a len z) (hc : a = none → cap = 0) (hlc : len ≤ cap) :
    Calls Try.prog 4 #[.slice a len cap] w (LawTrue w) := by
  by_cases hs : len ≤ 1048576
  · have hs' : ¬ (1048576 : Int) < (len : Int) := by omega
    go_enter Try.func4, Try.ntmps4
    go_wp2_with fail
    refine (drawLayerRead_any a len cap z w h hlc).mono ?_; rintro e w1 ⟨s, S, v, L, n, key, rfl, ⟨gs, cs, rfl, hrs, hsl⟩, ⟨av, cv, rfl, hrl, hnil, hlen, hsm⟩, hn0, hn1, hk0, hk1, hb1⟩
    clear h hs hs' hsm hnil
    go_wp2_with fail
    refine (layerRead_impl _ _ _ _ cs cv S L n key _ hrs hrl hlen).mono ?_; rintro e w2 ⟨rfl, hb2'⟩
    have hb2 := hb1.trans (hb2'.mono hb1.size)
    have hrs2 := hrs.below hb2'
    have hrl2 := hrl.below hb2'
    clear hrs hrl hb2'
    go_wp2_with fail
    refine (layerRead_spec _ _ _ _ cs cv S L n key _ hrs2 hrl2).mono ?_; rintro e w3 ⟨rfl, hd3⟩
    have hb3 := hb2.trans (hd3.below _)
    have hrs3 := hrs2.below (hd3.below w2.heap.size)
    have hrl3 := hrl2.below (hd3.below w2.heap.size)
    clear hrs2 hrl2 hd3
    cases hv : (storeB S && layersB L && inB n (-1) ((L.length : Int) - 1) && inB key 0 31) with
    | false =>
      have HV := Lib.hid (layerReadM_neg hv)
      clear hv
      rw [HV.out]
      go_wp2_with fail
      refine (alive_any _).mono ?_; rintro e w4 ⟨rfl, hb4⟩
      go_wp2
      go_ret
      exact ⟨rfl, hb3.trans (hb4.mono hb3.size)⟩
    | true =>
      have HV := Lib.hid (layerReadM_yes hv)
      simp only [Bool.and_eq_true] at hv
      obtain ⟨⟨⟨hS, hL⟩, hi⟩, hk⟩ := hv
      have hib := inB_true hi
      have hbd := readM_bd hS hL (n := n) (by omega) key
      have hst := store_valid (n := n) hS hL (by omega) (by omega)
      have HA : Hid (valueM (layerStoreM S L n) key = readM S L n key) := Lib.hid (by unfold valueM; rw [(storeB_ok _).2 hst.2, hk]; exact atM_store hS hL (by omega) (by omega) hk0 hk1)
      have HB : Hid (layerReadM S L (-1) key = atM S key) := Lib.hid (by rw [layerReadM_yes (by rw [hS, hL, hk, inB_yes (n := -1) (by omega) (by omega)]; rfl), readM_store])
      have HC : Hid (valueM S key = atM S key) := Lib.hid (by unfold valueM; rw [hS, hk]; rfl)
      clear hS hL hi hk hst hib
      rw [HV.out]
      obtain ⟨r, hr⟩ : ∃ r, r = readM S L n key := ⟨_, rfl⟩
      rw [← hr] at hbd HA ⊢
      clear hr HV
      obtain ⟨hr0, hr1⟩ := hbd
      have hrr : (r != r) = false := by simp
      have hrn : decide (r < 0) = false := by simp; omega
      have hre : (r == r) = true := by simp
      go_wp2_with fail
      refine (layerStore_impl _ _ _ _ cs cv S L n _ hrs3 hrl3 hlen).mono ?_; rintro e w4 ⟨v4, rfl, ho4, hw4, hb4'⟩
      have hb4 := hb3.trans (hb4'.mono hb3.size)
      have hrs4 := hrs3.below hb4'
      have hrl4 := hrl3.below hb4'
      have hpl : (layerStoreM S L n).length ≤ 4000000 := by
        have h := layerStoreM_ok S L n
        rw [h]; split
        · exact Nat.le_trans (entTo_len _ _) (by omega)
        · simp
      obtain ⟨g4, c4, rfl, hr4, -⟩ := rowE_of_owns ho4 hpl hw4
      clear hrs3 hrl3 hb4' ho4 hpl hb3
      go_wp2_with fail
      refine (valueAt_impl _ _ c4 _ key _ hr4).mono ?_; rintro e w5 ⟨rfl, hb5'⟩
      have hb5 := hb4.trans (hb5'.mono hb4.size)
      have hrs5 := hrs4.below hb5'
      have hrl5 := hrl4.below hb5'
      rw [HA.out]
      clear hrs4 hrl4 hb5' hr4 hb4 HA
      go_wp2_with fail
      refine (layerRead_impl _ _ _ _ cs cv S L (-1) key _ hrs5 hrl5 hlen).mono ?_; rintro e w6 ⟨rfl, hb6'⟩
      have hb6 := hb5.trans (hb6'.mono hb5.size)
      have hrs6 := hrs5.below hb6'
      rw [HB.out]
      clear hrs5 hrl5 hb6' hb5 HB
      go_wp2_with fail
      refine (valueAt_impl _ _ cs S key _ hrs6).mono ?_; rintro e w7 ⟨rfl, hb7'⟩
      have hb7 := hb6.trans (hb7'.mono hb6.size)
      rw [HC.out]
      obtain ⟨t, ht⟩ : ∃ t, t = atM S key := ⟨_, rfl⟩
      rw [← ht]
      have hte : (t == t) = true := by simp
      clear ht HC
      go_wp2
      go_ret
      exact ⟨rfl, hb7⟩
  · have hs' : (1048576 : Int) < (len : Int) := by omega
    clear h hlc
    go_enter Try.func4, Try.ntmps4
    go_wp2
    go_ret
    exact ⟨rfl, Below.refl _ _⟩
end Go.Proofs.Ytcaombogffmopaa

/- The view that records, in memory. -/
import Derived.Test.YtpnahncmhldgdaaEffMem
import Derived.Test.YtpnahncmhldgdaaLayP
import Derived.Test.YtpnahncmhldgdaaFour
import Derived.Deep.RegionLaw
namespace Go.Proofs.Ytpnahncmhldgdaa
open Go.RowKit Go.Maps
set_option linter.unusedVariables false
/-- The block G is a view: the values A, what was read is R, what was written is f, in at most K keys; the block D is none of its blocks. -/
structure View (w : World) (B G D : Nat) (A : List Int) (R : List Ent) (K : Nat) (f : Int → Option Int) : Prop where
  out : ∃ v m, VCells w G A v m ∧ w.ownsRow B 70 2 v R.length (flatE R) ∧ MapF w m K f ∧ WfE R ∧ B ≤ G ∧ B ≤ m ∧ m ≠ G ∧ v.ownBlock ≠ some G ∧ v.ownBlock ≠ some m ∧ (D < w.heap.size ∧ D ≠ G ∧ D ≠ m ∧ v.ownBlock ≠ some D)
theorem View.drewN {w : World} {B G D K : Nat} {A : List Int} {R : List Ent} {f : Int → Option Int} (h : View w B G D A R K f) (n : Nat) : View (w.drewN n) B G D A R K f := ⟨h.out⟩
theorem View.drew {w : World} {B G D K : Nat} {A : List Int} {R : List Ent} {f : Int → Option Int} (h : View w B G D A R K f) : View w.drew B G D A R K f := ⟨h.out⟩
theorem View.below {w w' : World} {B G D K : Nat} {A : List Int} {R : List Ent} {f : Int → Option Int} (h : View w B G D A R K f) (hb : Below w.heap.size w w') : View w' B G D A R K f := by
  obtain ⟨v, m, h1, h2, h3, h4, h5, h6, h7, h8, h9, h10, h11⟩ := h
  exact ⟨v, m, h1.grown (Below.grownBy hb none) (by simp), owns_below h2 hb, h3.below hb, h4, h5, h6, h7, h8, h9, Nat.lt_of_lt_of_le h10 hb.size, h11⟩
/-- A block that has just been made is none of the view's. -/
theorem View.fresh {w : World} {B G D K : Nat} {A : List Int} {R : List Ent} {f : Int → Option Int} (h : View w B G D A R K f) (o : Obj) : View (w.alloc o) B G w.heap.size A R K f := by
  obtain ⟨v, m, h1, h2, h3, h4, h5, h6, h7, h8, h9, h10, h11⟩ := h
  have a1 := h1.lt
  have a2 := h3.lt
  have hb := (Below.refl w.heap.size w).alloc (Nat.le_refl _) o
  exact ⟨v, m, h1.grown (Below.grownBy hb none) (by simp), owns_below h2 hb, h3.below hb, h4, h5, h6, h7, h8, h9, by simp, by omega, by omega, fun e => by have := (h2.lt _ e).2; omega⟩
theorem View.lt {w : World} {B G D K : Nat} {A : List Int} {R : List Ent} {f : Int → Option Int} (h : View w B G D A R K f) : G < w.heap.size ∧ B ≤ G := by
  obtain ⟨v, m, h1, h2, h3, h4, h5, h6⟩ := h; exact ⟨h1.lt, h5⟩
/-- Whether a list has x: the answer of Index is a number at least 0 then. -/
def IdxB (l : List Ent) (x : Ent) (w : World) (e : Ending) (w' : World) : Prop := ∃ n : Int, e = .returned (.int .i64 n) ∧ decide (0 ≤ n) = decide (x ∈ l) ∧ -1 ≤ n ∧ n ≤ 4000000 ∧ Below w.heap.size w w'
/-- None of the first k is x. -/
def NotTo (l : List Ent) (x : Ent) (k : Nat) : Prop := ∀ j, j < k → l.getD j (0, 0) ≠ x
theorem NotTo.next {l : List Ent} {x : Ent} {k : Nat} (h : NotTo l x k) (hk : l.getD k (0, 0) ≠ x) : NotTo l x (k + 1) := by
  intro j hj
  by_cases e : j = k
  · rw [e]; exact hk
  · exact h j (by omega)
theorem NotTo.all {l : List Ent} {x : Ent} (h : NotTo l x l.length) : x ∉ l := by
  intro hx
  obtain ⟨j, hj, he⟩ := List.getElem_of_mem hx
  exact h j hj (by rw [List.getD_eq_getElem?_getD, List.getElem?_eq_getElem hj]; exact he)
theorem getD_in {l : List Ent} {k : Nat} (h : k < l.length) : l.getD k (0, 0) ∈ l := by
  rw [List.getD_eq_getElem?_getD, List.getElem?_eq_getElem h]; exact List.getElem_mem h
set_option maxHeartbeats 1000000 in
theorem index_any (a : Option Addr) (n cap : Nat) (l : List Ent) (x y : Int) (w : World) (h : RowE w a n l) (hn : n ≤ 4000000) :
    Calls Try.prog 125 #[.slice a n cap, .agg #[.int .i64 x, .int .i64 y]] w (IdxB l (x, y) w) := by
  have HR := Lib.hid h
  obtain ⟨hl, hm, hc, -⟩ := h
  have HL := Lib.hid hl; clear hl
  have hb0 := (Below.refl w.heap.size w).alloc (Nat.le_refl _) (.cells #[.int .i64 x, .int .i64 y] 70)
  have hd1 : (w.alloc (.cells #[.int .i64 x, .int .i64 y] 70)).cell? ⟨w.heap.size, 0, none⟩ = some (.int .i64 x) := by simp [go_sem]
  have hd2 : (w.alloc (.cells #[.int .i64 x, .int .i64 y] 70)).cell? ⟨w.heap.size, 1, none⟩ = some (.int .i64 y) := by simp [go_sem]
  by_cases h0 : 0 < n
  · obtain ⟨b, off, rfl, hcc⟩ := hc h0; clear hc; have hc := hcc; clear hcc
    have hbB : b < w.heap.size := World.block_lt_of_cell? w ⟨b, off + 0 * 2, none⟩ (hc 0 h0).1
    go_enter Try.func125, Try.ntmps125
    go_wp2
    obtain ⟨w1, hw1⟩ : ∃ w1, w1 = w.alloc (.cells #[.int .i64 x, .int .i64 y] 70) := ⟨_, rfl⟩
    rw [← hw1] at hb0 hd1 hd2 ⊢
    have hz1 : w.heap.size < w1.heap.size := by rw [hw1]; simp
    clear hw1
    go_loopw [8] (fun i wr => ∃ k : Nat, k ≤ n ∧ i = .int .i64 k ∧ NotTo l (x, y) k ∧ Drawn w1 wr) (fun i _ => n - (intOf i).toNat)
    case atStart => exact ⟨0, Nat.zero_le _, rfl, fun j hj => absurd hj (Nat.not_lt_zero j), Drawn.refl _⟩
    case round =>
      obtain ⟨k, hk, rfl, hnt, hd⟩ := hrel
      have HNT := Lib.hid hnt
      clear hnt
      by_cases hlt : k < n
      · have hc1 := (hd.cell _).trans ((hb0.cell (p := ⟨b, off + k * 2, none⟩) hbB).trans (hc k hlt).1)
        have hc2 := (hd.cell _).trans ((hb0.cell (p := ⟨b, off + k * 2 + 1, none⟩) hbB).trans (hc k hlt).2)
        have he1 := (hd.cell _).trans hd1
        have he2 := (hd.cell _).trans hd2
        have HG : Hid (l.getD k (0, 0) = ((l.getD k (0, 0)).1, (l.getD k (0, 0)).2)) := Lib.hid rfl
        have HI : Hid (l.getD k (0, 0) ∈ l) := Lib.hid (getD_in (by rw [HL.out]; exact hlt))
        obtain ⟨p, hp⟩ : ∃ p, p = (l.getD k (0, 0)).1 := ⟨_, rfl⟩
        obtain ⟨q, hq⟩ : ∃ q, q = (l.getD k (0, 0)).2 := ⟨_, rfl⟩
        rw [← hp] at hc1
        rw [← hq] at hc2
        rw [← hp, ← hq] at HG
        clear hp hq hc hd1 hd2
        by_cases hx : x = p
        · subst hx
          by_cases hy : y = q
          · subst hy
            have HM : Hid ((x, y) ∈ l) := Lib.hid (by have := HI.out; rw [HG.out] at this; exact this)
            go_wp2
            go_quiet (fail)
            go_wp2
            go_ret
            exact ⟨_, rfl, by simp [HM.out], by omega, by omega, below_drewN' (hb0.trans (hd.below _)) _⟩
          · have e2 : (y == q) = false := by simpa using hy
            have HN := Lib.hid (HNT.out.next (by rw [HG.out]; intro e; injection e with _ e; exact hy e.symm))
            clear hy
            go_wp2
            go_quiet (fail)
            go_wp2
            go_roundw
            case rel => exact ⟨k + 1, by omega, by go_num, HN.out, hd.drewN _⟩
            case measure => simp [intOf]; omega
        · have e1 : (x == p) = false := by simpa using hx
          have HN := Lib.hid (HNT.out.next (by rw [HG.out]; intro e; injection e with e _; exact hx e.symm))
          clear hx
          go_wp2
          go_quiet (fail)
          go_wp2
          go_roundw
          case rel => exact ⟨k + 1, by omega, by go_num, HN.out, hd.drewN _⟩
          case measure => simp [intOf]; omega
      · have HM : Hid ((x, y) ∉ l) := Lib.hid (NotTo.all (by rw [HL.out, show n = k by omega]; exact HNT.out))
        clear hc
        go_wp2
        go_ret
        exact ⟨_, rfl, by simp [HM.out], by omega, by omega, hb0.trans (hd.below _)⟩
  · obtain rfl : n = 0 := by omega
    obtain rfl : l = [] := List.eq_nil_of_length_eq_zero HL.out
    clear hc
    go_enter Try.func125, Try.ntmps125
    go_wp2
    go_loop [8] (fun i => i = .int .i64 0) (fun _ => 0)
    case atStart => rfl
    case round =>
      subst hrel
      go_wp2
      go_ret
      exact ⟨_, rfl, by simp, by omega, by omega, hb0⟩
theorem contains_any (a : Option Addr) (n cap : Nat) (l : List Ent) (x y : Int) (w : World) (h : RowE w a n l) (hn : n ≤ 4000000) :
    Calls Try.prog 124 #[.slice a n cap, .agg #[.int .i64 x, .int .i64 y]] w (BoolB (decide ((x, y) ∈ l)) w) := by
  have hb0 := (Below.refl w.heap.size w).alloc (Nat.le_refl _) (.cells #[.int .i64 x, .int .i64 y] 70)
  have HR := Lib.hid (h.below hb0)
  clear h
  go_enter Try.func124, Try.ntmps124
  go_wp2_with fail
  refine (index_any a n cap l x y _ HR.out hn).mono ?_; rintro e w1 ⟨j, rfl, hj, hj0, hj1, hb1⟩
  have HJ := Lib.hid hj
  clear hj
  go_wp2
  go_ret
  exact ⟨by rw [← HJ.out]; rfl, hb0.trans (hb1.mono hb0.size)⟩
theorem View.record {w2 w5 : World} {B G D K : Nat} {A : List Int} {R : List Ent} {f : Int → Option Int} {v v1 : Value} {m : Nat} {o : Obj} {x y : Int} (hv : VCells w2 G A v m) (hm : MapF w2 m K f) (hwf : WfE R) (hBG : B ≤ G) (hBm : B ≤ m) (hmG : m ≠ G) (hvG : v.ownBlock ≠ some G) (hvm : v.ownBlock ≠ some m) (hD : D < w2.heap.size ∧ D ≠ G ∧ D ≠ m ∧ v.ownBlock ≠ some D)
    (hg : (w2.alloc o).grownBy w5 v.ownBlock) (ho : w5.ownsRow B 70 2 v1 (R.length + 1) (flatE R ++ [.int .i64 x, .int .i64 y])) (hat : v1.ownBlock = v.ownBlock ∨ v1.ownBlock = some (w2.heap.size + 1)) (hx : (Lit.int .i64 x).wf = true) (hy : (Lit.int .i64 y).wf = true) :
    View (w5.setCell ⟨G, 32, none⟩ v1) B G D A (R ++ [(x, y)]) K f ∧ (w5.setCell ⟨G, 32, none⟩ v1).heap[D]? = w2.heap[D]? ∧ w2.heap.size ≤ (w5.setCell ⟨G, 32, none⟩ v1).heap.size ∧ ∀ a, Below B a w2 → B ≤ w2.heap.size → (∀ g, v.ownBlock = some g → B ≤ g) → Below B a (w5.setCell ⟨G, 32, none⟩ v1) := by
  have hGl := hv.lt
  have hml := hm.lt
  have hne : v1.ownBlock ≠ some G ∧ v1.ownBlock ≠ some m ∧ v1.ownBlock ≠ some D := by
    rcases hat with e | e
    · rw [e]; exact ⟨hvG, hvm, hD.2.2.2⟩
    · rw [e]; exact ⟨by simp; omega, by simp; omega, by simp; omega⟩
  have hv5 := (hv.grown (World.grownBy_alloc w2 o none) (by simp)).grown hg (fun e => hvG e.symm)
  have hm5 := (hm.alloc o).keep (hg.block m (by simp; omega) (fun e => hvm e.symm))
  have hs := hg.size
  simp only [World.size_alloc] at hs
  refine ⟨⟨v1, m, hv5.set v1, ?_, hm5.keep (heap_setCell_other w5 ⟨G, 32, none⟩ m v1 hmG), hwf.snoc hx hy, hBG, hBm, hmG, hne.1, hne.2.1, by rw [size_setCell]; omega, hD.2.1, hD.2.2.1, hne.2.2⟩, ?_, by rw [size_setCell]; omega, fun a ha hB hvB => ?_⟩
  · have hk := owns_keep (w' := w5.setCell ⟨G, 32, none⟩ v1) ho (fun b hb => heap_setCell_other w5 ⟨G, 32, none⟩ b v1 (fun e => hne.1 (by rw [← owns_blk ho, hb]; simp at e; rw [e])))
    rw [List.length_append, flatE_append]
    exact hk
  · exact (heap_setCell_other w5 ⟨G, 32, none⟩ D v1 hD.2.1).trans ((hg.block D (by simp; omega) (fun e => hD.2.2.2 e.symm)).trans (Below.heap_alloc w2 o D hD.1))
  · exact ((ha.alloc hB o).grown hg (by simp; omega) (fun k hk => hvB k hk)).setCell hBG _
/-- What read answers: the value, and the view with the pair recorded. -/
def ReadP (w : World) (B G D : Nat) (A : List Int) (R : List Ent) (K : Nat) (f : Int → Option Int) (key : Nat) (x : Int) (e : Ending) (w' : World) : Prop :=
  e = .returned (.int .i64 x) ∧ View w' B G D A (addR R (key, x)) K f ∧ w'.heap[D]? = w.heap[D]? ∧ w.heap.size ≤ w'.heap.size ∧ Below B w w'
set_option maxHeartbeats 4000000 in
theorem read_any (B G D K : Nat) (A : List Int) (R : List Ent) (f : Int → Option Int) (key : Nat) (x : Int) (w : World) (h : View w B G D A R K f) (hx : A.getD key 0 = x) (hB : B ≤ w.heap.size) (hk : key < 32) (hA : BdA A) (hR : R.length ≤ 100) :
    Calls Try.prog 114 #[.pointer (some ⟨G, 0, none⟩), .int .i64 key] w (ReadP w B G D A R K f key x) := by
  obtain ⟨v, m, hv, hown, hm, hwf, hBG, hBm, hmG, hvG, hvm, hD0⟩ := h
  have hbd := hA key hk
  have HWF := Lib.hid hwf
  clear hA hwf
  have hc := hv.1 key hk
  rw [hx] at hc hbd
  clear hx
  have hd1 : (w.alloc (.cells #[.int .i64 key, .int .i64 x] 70)).cell? ⟨w.heap.size, 0, none⟩ = some (.int .i64 key) := by simp [go_sem]
  have hd2 : (w.alloc (.cells #[.int .i64 key, .int .i64 x] 70)).cell? ⟨w.heap.size, 1, none⟩ = some (.int .i64 x) := by simp [go_sem]
  have hb0 := (Below.refl w.heap.size w).alloc (Nat.le_refl _) (.cells #[.int .i64 key, .int .i64 x] 70)
  have hz0 : w.heap.size < (w.alloc (.cells #[.int .i64 key, .int .i64 x] 70)).heap.size := by simp
  obtain ⟨a, cap, rfl, hrow, hzc⟩ := rowE_of_owns hown (by omega) HWF.out
  go_enter Try.func114, Try.ntmps114
  go_wp2_with fail
  have hv1 := hv.grown (Below.grownBy hb0 none) (by simp)
  have hown1 := owns_below hown hb0
  have hrow1 := hrow.below hb0
  have hm1 := hm.below hb0
  have hbB := (Below.refl B w).trans (hb0.mono hB)
  have hBz := Nat.le_trans hB hbB.size
  obtain ⟨E, hE⟩ : ∃ E, E = w.heap.size := ⟨_, rfl⟩
  have HE := Lib.hid hE
  have hG := hv.lt
  have HD := Lib.hid hD0
  clear hD0
  have hvE : (Value.slice a R.length cap).ownBlock ≠ some E := fun e => by have := (hown.lt _ e).2; omega
  have hml := hm.lt
  rw [← hE] at hd1 hd2 hz0 hG hml ⊢
  clear hE hb0 hv hm hown hrow hc
  have HDH := Lib.hid (Below.heap_alloc w (.cells #[.int .i64 key, .int .i64 x] 70) D HD.out.1)
  have HDs := Lib.hid (show D < (w.alloc (.cells #[.int .i64 key, .int .i64 x] 70)).heap.size from by have := HD.out.1; simp; omega)
  obtain ⟨w1, hw1⟩ : ∃ w1, w1 = w.alloc (.cells #[.int .i64 key, .int .i64 x] 70) := ⟨_, rfl⟩
  rw [← hw1] at hv1 hown1 hrow1 hm1 hd1 hd2 hbB hBz hz0 HDH HDs ⊢
  clear hw1
  have hc32 := hv1.2.1
  go_region_with (go_at_call 124; refine (contains_any _ _ _ R key x _ (show RowE w1.drew _ _ R from hrow1) (by omega)).mono ?_; rintro e w2 ⟨rfl, hb2'⟩; have hb2 : Below w1.heap.size w1 w2 := (Below.refl _ w1).drew.trans hb2'; clear hb2')
  all_goals
    have hv2 := hv1.grown (Below.grownBy hb2 none) (by simp)
    have hown2 := owns_below hown1 hb2
    have hm2 := hm1.below hb2
    have he1 : w2.cell? ⟨E, 0, none⟩ = some (.int .i64 key) := (hb2.cell (p := ⟨E, 0, none⟩) hz0).trans hd1
    have he2 : w2.cell? ⟨E, 1, none⟩ = some (.int .i64 x) := (hb2.cell (p := ⟨E, 1, none⟩) hz0).trans hd2
    have hb3 := hbB.trans (hb2.mono hBz)
    have hsz2 := Nat.le_trans (Nat.le_of_lt hz0) hb2.size
    have hsB := Nat.le_trans hBz hb2.size
    have HD2 := Lib.hid (show D < w2.heap.size ∧ D ≠ G ∧ D ≠ m ∧ (Value.slice a R.length cap).ownBlock ≠ some D from ⟨Nat.lt_of_lt_of_le HDs.out hb2.size, HD.out.2⟩)
    have HDH2 := Lib.hid ((hb2.block D HDs.out).trans HDH.out)
    clear hv1 hown1 hm1 hd1 hd2 hbB hBz hz0 hb2 hrow1 hc32
    cases hin : decide (((key : Int), x) ∈ R) with
    | true =>
      have HIN : Hid (((key : Int), x) ∈ R) := Lib.hid (by simpa using hin)
      clear hin
      go_wp2
      go_ret
      exact ⟨rfl, by rw [addR_in HIN.out]; exact ⟨_, m, hv2, hown2, hm2, HWF.out, hBG, hBm, hmG, hvG, hvm, HD2.out⟩, HDH2.out, by rw [← HE.out]; exact hsz2, hb3⟩
    | false =>
      have HIN : Hid (((key : Int), x) ∉ R) := Lib.hid (by simpa using hin)
      clear hin
      have hc32 := hv2.2.1
      have hf32 := hv2.2.2.2.2
      have hc32' := (hv2.grown (World.grownBy_alloc w2 (.cells #[.int .i64 (key : Int), .int .i64 x] 70) none) (by simp)).2.1
      have hwx : (Lit.int .i64 x).wf = true := WalkArith.wf_i64 (by omega)
      have hwk : (Lit.int .i64 (key : Int)).wf = true := WalkArith.wf_i64 (by omega)
      have HWX := Lib.hid hwx; have HWK := Lib.hid hwk
      clear hwx hwk
      go_wp2_with fail
      go_region_law (first | (refine step_app1d rfl (.tmp 25) (.tmp 27) 23 rfl B 70 _ (.agg #[.int .i64 0, .int .i64 0]) 2 16 Try.underlying23 infoEnt rfl (by decide) (.slice a R.length cap) R.length _ [.int .i64 (key : Int), .int .i64 x] (by rfl) hown2 (by rfl) rfl (by intro u hu; simp at hu; rcases hu with rfl | rfl <;> rfl) (by omega) (by decide) hsB ?_; intro v1 w5 ho1' hnn hg1 hat; obtain ⟨g1, cp1, rfl, hg1B, hg1lt⟩ := Own.slice ⟨ho1', hnn⟩; have hv5 := (hv2.grown (World.grownBy_alloc w2 _ none) (by simp)).grown hg1 (fun e => hvG e.symm); have hc5 := hv5.2.1; have hf5 := hv5.2.2.2.2))
      all_goals
        obtain ⟨r1, r0, r2, r3⟩ := View.record hv2 hm2 HWF.out hBG hBm hmG hvG hvm HD2.out hg1 ho1' hat HWK.out HWX.out
        have he5 : w5.cell? ⟨E, 1, none⟩ = some (.int .i64 x) := hg1.cell ((World.grownBy_alloc w2 (.cells #[.int .i64 (key : Int), .int .i64 x] 70) none).cell he2 (by simp)) (fun e => hvE e.symm)
        have he6 : (w5.setCell ⟨G, 32, none⟩ (.slice (some ⟨g1, 0, none⟩) (R.length + 1) cp1)).cell? ⟨E, 1, none⟩ = some (.int .i64 x) := (World.cell?_of_block (heap_setCell_other w5 ⟨G, 32, none⟩ E _ (by simp; omega))).trans he5
        have HR1 := Lib.hid r1
        have HR0 := Lib.hid (r0.trans HDH2.out)
        have HR2 := Lib.hid (Nat.le_trans hsz2 r2)
        have HR3 := Lib.hid (r3 w hb3 hsB (fun g hg => (hown2.lt g hg).1))
        clear r1 r0 r2 r3 hv2 hm2 hown2 hg1 ho1' hat hc5 hf5 hc32 hf32 hc32' hv5 hb3 he1 he2 he5
        obtain ⟨w6, hw6⟩ : ∃ w6, w6 = w5.setCell ⟨G, 32, none⟩ (.slice (some ⟨g1, 0, none⟩) (R.length + 1) cp1) := ⟨_, rfl⟩
        rw [← hw6] at HR0 HR1 HR2 HR3 he6 ⊢
        clear hw6
        go_wp2
        go_ret
        exact ⟨rfl, by rw [addR_out HIN.out]; exact HR1.out, HR0.out, by rw [← HE.out]; exact HR2.out, HR3.out⟩
end Go.Proofs.Ytpnahncmhldgdaa

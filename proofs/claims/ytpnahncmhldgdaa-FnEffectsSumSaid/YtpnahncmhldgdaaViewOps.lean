/- The contracts of the view's viewOf, write, effect. -/
import Derived.Test.YtpnahncmhldgdaaViewMem
namespace Go.Proofs.Ytpnahncmhldgdaa
open Go.RowKit Go.Maps
set_option linter.unusedVariables false
/-- What write leaves. -/
def WriteP (w : World) (B G D : Nat) (A : List Int) (R : List Ent) (K : Nat) (f : Int → Option Int) (key val : Int) (e : Ending) (w' : World) : Prop :=
  e = .returned (.tuple #[]) ∧ View w' B G D A R (K + 1) (updF f key val) ∧ w'.heap[D]? = w.heap[D]? ∧ w.heap.size ≤ w'.heap.size ∧ Below B w w'
theorem View.wrote {w w1 : World} {B G D K : Nat} {A : List Int} {R : List Ent} {g : Int → Option Int} {v : Value} {m : Nat} (hv : VCells w G A v m) (hown : w.ownsRow B 70 2 v R.length (flatE R)) (hwf : WfE R) (hBG : B ≤ G) (hBm : B ≤ m) (hmG : m ≠ G) (hvG : v.ownBlock ≠ some G) (hvm : v.ownBlock ≠ some m) (hD : D < w.heap.size ∧ D ≠ G ∧ D ≠ m ∧ v.ownBlock ≠ some D)
    (hm : MapF w1 m (K + 1) g) (hg : w.grownBy w1 (some m)) (hB : B ≤ w.heap.size) : View w1 B G D A R (K + 1) g ∧ w1.heap[D]? = w.heap[D]? ∧ w.heap.size ≤ w1.heap.size ∧ Below B w w1 := by
  refine ⟨⟨v, m, hv.grown hg (fun e => hmG (by simpa using e.symm)), ?_, hm, hwf, hBG, hBm, hmG, hvG, hvm, Nat.lt_of_lt_of_le hD.1 hg.size, hD.2⟩, hg.block D hD.1 (fun e => hD.2.2.1 (by simpa using e)), hg.size, (Below.refl B w).grown hg hB (fun k hk => by simp at hk; omega)⟩
  exact hown.kept hg (.inr hvm)
set_option maxHeartbeats 1000000 in
theorem write_any (B G D K : Nat) (A : List Int) (R : List Ent) (f : Int → Option Int) (key val : Int) (w : World) (h : View w B G D A R K f) (hB : B ≤ w.heap.size) (hK : K < 500) (hk : (Lit.int .i64 key).wf = true) (hval : (Lit.int .i64 val).wf = true) :
    Calls Try.prog 119 #[.pointer (some ⟨G, 0, none⟩), .int .i64 key, .int .i64 val] w (WriteP w B G D A R K f key val) := by
  obtain ⟨v, m, hv, hown, hm, hwf, hBG, hBm, hmG, hvG, hvm, hD⟩ := h
  have hc := hv.2.2.2.1
  have HW := Lib.hid (fun w1 g h1 h2 => View.wrote (w1 := w1) (K := K) (g := g) hv hown hwf hBG hBm hmG hvG hvm hD h1 h2 hB)
  have HK := Lib.hid hk; have HV := Lib.hid hval
  clear hv hown hwf hk hval hD
  go_enter Try.func119, Try.ntmps119
  go_wp2_with (first | (refine wpList_mapUpdate_F _ rfl (.tmp 10) (.tmp 11) (.tmp 12) rfl m K f key val (by rfl) (by rfl) (by rfl) hm (by omega) HK.out HV.out ?_; intro w1 hm1 hg1))
  refine bodyPost_ret (v := .tuple #[]) ?_ rfl ⟨rfl, HW.out w1 _ hm1 hg1⟩
  simp [results, Try.results119]
/-- The cells of a new view. -/
def viewC (A : List Int) (m : Nat) : Array Value := cellsI A ++ #[.slice none 0 0, .int .i64 (-1), .map (some m)]
theorem built_view_x (a0 a1 a2 a3 a4 a5 a6 a7 a8 a9 a10 a11 a12 a13 a14 a15 a16 a17 a18 a19 a20 a21 a22 a23 a24 a25 a26 a27 a28 a29 a30 a31 : Int) (m : Nat) : Try.prog.built 117 [(0, .agg (cellsI [a0, a1, a2, a3, a4, a5, a6, a7, a8, a9, a10, a11, a12, a13, a14, a15, a16, a17, a18, a19, a20, a21, a22, a23, a24, a25, a26, a27, a28, a29, a30, a31])), (2, .agg #[.int .i64 (-1), .map (some m)])] = some (viewC [a0, a1, a2, a3, a4, a5, a6, a7, a8, a9, a10, a11, a12, a13, a14, a15, a16, a17, a18, a19, a20, a21, a22, a23, a24, a25, a26, a27, a28, a29, a30, a31] m) := by kernel_rfl
theorem built_view (A : List Int) (hl : A.length = 32) (m : Nat) : Try.prog.built 117 [(0, .agg (cellsI A)), (2, .agg #[.int .i64 (-1), .map (some m)])] = some (viewC A m) := by
  match A, hl with
  | [a0, a1, a2, a3, a4, a5, a6, a7, a8, a9, a10, a11, a12, a13, a14, a15, a16, a17, a18, a19, a20, a21, a22, a23, a24, a25, a26, a27, a28, a29, a30, a31], _ => exact built_view_x a0 a1 a2 a3 a4 a5 a6 a7 a8 a9 a10 a11 a12 a13 a14 a15 a16 a17 a18 a19 a20 a21 a22 a23 a24 a25 a26 a27 a28 a29 a30 a31 m
theorem wpList_build_view {w : World} {ops : Array Oper} {rest : List Oper} {o : Oper} {a : Act} {Q : Exit → Act → World → Prop} (hgd : Region.wanted o (yielded ops a.tmps) = true) (s x : Operand)
    (ho : o.op = .build 117 #[(0, s), (2, x)]) (A : List Int) (hl : A.length = 32) (m : Nat) (hs : a.eval s = .agg (cellsI A)) (hx : a.eval x = .agg #[.int .i64 (-1), .map (some m)])
    (h : wpList Try.prog ops Q rest (a.put o.dst (.agg (viewC A m))) w) : wpList Try.prog ops Q (o :: rest) a w := by
  refine BigFrame.wpList_want hgd fun K hK => ?_
  have hb := built_view A hl m
  have he : (#[((0 : Nat), s), (2, x)].map fun (i, x) => (i, a.eval x)).toList = [(0, .agg (cellsI A)), (2, .agg #[.int .i64 (-1), .map (some m)])] := by simp [hs, hx]
  refine wp_build _ _ ho (by rw [he, hb]; rfl) ?_
  rw [he, hb]
  exact hK _ _ h
theorem vcells_new (w : World) (A : List Int) (hl : A.length = 32) (m : Nat) (T : TypeId) : VCells (w.alloc (.cells (viewC A m) T)) w.heap.size A (.slice none 0 0) m := by
  have hc : ∀ j, (w.alloc (.cells (viewC A m) T)).cell? ⟨w.heap.size, j, none⟩ = (viewC A m)[j]? := fun j => cell_of_row _ _ j (viewC A m) T (0, 0) (heap_alloc_new w _)
  have hs : (cellsI A).size = 32 := by rw [cellsI_size, hl]
  refine ⟨fun k hk => ?_, ?_, ?_, ?_, frozen_of_row _ _ 32 (viewC A m) T (heap_alloc_new w _)⟩
  · rw [hc, viewC, Array.getElem?_append_left (by omega)]; exact cellsI_get A k (by omega)
  · rw [hc, viewC, Array.getElem?_append_right (by omega), hs]; rfl
  · rw [hc, viewC, Array.getElem?_append_right (by omega), hs]; rfl
  · rw [hc, viewC, Array.getElem?_append_right (by omega), hs]; rfl
theorem run_makeMap_0 (w : World) : (Instr.makeMap 113 none).run Try.prog w = .ok (.map (some w.heap.size)) (w.alloc (.map #[] 0)) := rfl
/-- A view as it begins. -/
def ViewNew (w : World) (A : List Int) (e : Ending) (w' : World) : Prop := ∃ G, e = .returned (.pointer (some ⟨G, 0, none⟩)) ∧ View w' w.heap.size G w.heap.size A [] 0 (fun _ => none) ∧ Below w.heap.size w w'
set_option maxHeartbeats 1000000 in
theorem viewOf_any (A : List Int) (w : World) (hl : A.length = 32) :
    Calls Try.prog 65 #[.agg (cellsI A)] w (ViewNew w A) := by
  have HL := Lib.hid hl; clear hl
  have hA := Arr.new w 79 A
  have hb0 := (Below.refl w.heap.size w).alloc (Nat.le_refl _) (.cells (cellsI A) 79)
  have hmm := fun W => run_makeMap_0 W
  go_enter Try.func65, Try.ntmps65
  go_wp2_with (first | (refine wpList_load_arr rfl _ _ rfl _ (by rfl) 79 A hA _ _ Try.underlying79 (by rw [HL.out]; exact infoArr) ?_) | (refine wpList_build_view rfl (.tmp 3) (.tmp 5) rfl A HL.out (w.heap.size + 1) (by rfl) (by rfl) ?_))
  have hv := vcells_new ((w.alloc (.cells (cellsI A) 79)).alloc (.map #[] 0)) A HL.out (w.heap.size + 1) 117
  have hm := (MapF.made (w.alloc (.cells (cellsI A) 79))).alloc (.cells (viewC A (w.heap.size + 1)) 117)
  have hz : ((w.alloc (.cells (cellsI A) 79)).alloc (.map #[] 0)).heap.size = w.heap.size + 1 + 1 := by simp
  rw [hz] at hv
  rw [World.size_alloc] at hm
  have hb2 := (hb0.alloc (by simp) (.map #[] 0)).alloc (by simp; omega) (.cells (viewC A (w.heap.size + 1)) 117)
  go_ret
  exact ⟨w.heap.size + 1 + 1, rfl, ⟨_, w.heap.size + 1, hv, World.ownsRow_nil _ _ _ _, hm, fun e he => (by cases he), by omega, by omega, by omega, by simp [Value.ownBlock], by simp [Value.ownBlock], by simp; omega, by omega, by omega, by simp [Value.ownBlock]⟩, hb2⟩
set_option maxHeartbeats 4000000 in
theorem effect_any (B G D K : Nat) (A : List Int) (R : List Ent) (f : Int → Option Int) (b : Bool) (w : World) (h : View w B G D A R K f) (hB : B ≤ w.heap.size) (hf : BdF f) (hR : R.length ≤ 100) :
    Calls Try.prog 66 #[.pointer (some ⟨G, 0, none⟩), .bool b] w (fun e w' => ∃ v, e = .returned v ∧ OwnF w' B 70 v ⟨b, R, wrOf f 32⟩ ∧ Below w.heap.size w w') := by
  obtain ⟨v, m, hv, hown, hm, hwf, hBG, hBm, hmG, hvG, hvm, -⟩ := h
  obtain ⟨a, cap, rfl, hrow, hzc⟩ := rowE_of_owns hown (by omega) hwf
  obtain ⟨w1, hw1⟩ : ∃ w1, w1 = w.alloc (.cells #[.bool false, .slice none 0 0, .slice none 0 0] 39) := ⟨_, rfl⟩
  have hb1 := (Below.refl w.heap.size w).alloc (Nat.le_refl _) (.cells #[.bool false, .slice none 0 0, .slice none 0 0] 39)
  have hr : (w1.cell? ⟨w.heap.size, 0, none⟩ = some (.bool false) ∧ w1.cell? ⟨w.heap.size, 1, none⟩ = some (.slice none 0 0) ∧ w1.cell? ⟨w.heap.size, 2, none⟩ = some (.slice none 0 0)) ∧ (w1.frozen? ⟨w.heap.size, 0, none⟩ = false ∧ w1.frozen? ⟨w.heap.size, 1, none⟩ = false ∧ w1.frozen? ⟨w.heap.size, 2, none⟩ = false) ∧ w.heap.size < w1.heap.size := by
    rw [hw1]; simp [go_sem]
  obtain ⟨⟨z0, z1, z2⟩, ⟨y0, y1, y2⟩, hzw⟩ := hr
  go_enter Try.func66, Try.ntmps66
  go_wp2_with fail
  rw [← hw1] at hb1 ⊢
  clear hw1
  have hv1 := hv.grown (Below.grownBy hb1 none) (by simp)
  have hm1 := hm.below hb1
  have hown1 := owns_below hown hb1
  have c32 := hv1.2.1
  have c33 := hv1.2.2.1
  have c34 := hv1.2.2.2.1
  have hol := hown.lt
  clear hv hm hown hrow
  go_region_with (go_at_call 94; refine (writes_impl (-1) m K f _ (show MapF w1.drew m K f from hm1) hf).mono ?_; rintro e w2 ⟨vw, rfl, how, hww, hb2'⟩; obtain ⟨aw, cw, rfl, hrw, hzw2⟩ := rowE_of_owns how (Nat.le_trans (wrOf_len f 32) (by omega)) hww; have hb2 : Below w1.heap.size w1 w2 := (Below.refl _ w1).drew.trans hb2'; have d32 := (hv1.grown (Below.grownBy hb2 none) (by simp)).2.1; have x0 := (hb2.cell (p := ⟨w.heap.size, 0, none⟩) hzw).trans z0; have x1 := (hb2.cell (p := ⟨w.heap.size, 1, none⟩) hzw).trans z1; have x2 := (hb2.cell (p := ⟨w.heap.size, 2, none⟩) hzw).trans z2; have v0 : w2.frozen? ⟨w.heap.size, 0, none⟩ = false := (World.frozen?_of_block (hb2.block _ hzw)).trans y0; have v1 : w2.frozen? ⟨w.heap.size, 1, none⟩ = false := (World.frozen?_of_block (hb2.block _ hzw)).trans y1; have v2 : w2.frozen? ⟨w.heap.size, 2, none⟩ = false := (World.frozen?_of_block (hb2.block _ hzw)).trans y2)
  all_goals
    have ho2 := owns_below hown1 hb2
    have hF : OwnF w2 B 70 (.agg #[.bool b, .slice a R.length cap, .slice aw (wrOf f 32).length cw]) ⟨b, R, wrOf f 32⟩ := ⟨_, _, rfl, ho2, owns_mono how (Nat.le_trans hB (Nat.le_of_lt hzw)), hwf, hww, fun p hp hq => by have h1 := hol p hp; have h2 : w1.heap.size ≤ p ∧ _ := how.lt p hq; omega⟩
    have HF := Lib.hid (ownF_set3 hF (Z := w.heap.size) (fun p q e => by
      simp only [Value.agg.injEq, Array.mk.injEq, List.cons.injEq, and_true, true_and] at e
      obtain ⟨rfl, rfl⟩ := e
      exact ⟨fun h => by have := (hol _ h).2; omega, fun h => by have h2 : w1.heap.size ≤ _ ∧ _ := how.lt _ h; omega⟩) 0 1 2 (.bool b) (.slice a R.length cap) (.slice aw (wrOf f 32).length cw))
    have HB := Lib.hid (below_set3 (hb1.trans (hb2.mono (Nat.le_of_lt hzw))) (Z := w.heap.size) (Nat.le_refl _) 0 1 2 (.bool b) (.slice a R.length cap) (.slice aw (wrOf f 32).length cw))
    clear hF ho2 how hww hol hv1 hm1 hown1 hb2' hb2 hrw c32 c33 c34 d32 z0 z1 z2 y0 y1 y2
    go_wp2
    refine bodyPost_ret (v := .agg #[.bool b, .slice a R.length cap, .slice aw (wrOf f 32).length cw]) ?_ rfl ⟨_, rfl, HF.out, HB.out⟩
    simp [results, Try.results66, go_sem, x0, x1, x2]
end Go.Proofs.Ytpnahncmhldgdaa

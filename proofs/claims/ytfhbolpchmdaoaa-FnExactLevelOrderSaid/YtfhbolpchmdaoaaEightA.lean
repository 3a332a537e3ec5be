/- Texts of ours that stand together: FitMem, ImplConf, ImplBef, ImplLev, ImplFit -/
import Derived.Test.YtfhbolpchmdaoaaConfM
import Derived.Test.YtfhbolpchmdaoaaFive
import Derived.Test.YtfhbolpchmdaoaaSpecC
import Derived.Maps.AppendAt
import Derived.Deep.Cut
import Derived.Deep.RegionWith
import Derived.RegionTactic
/- Which numbers of an order are placed, in memory. No function of the program is named here. -/
namespace Go.Proofs.Ytfhbolpchmdaoaa
open Go.RowKit
set_option linter.unusedVariables false
/-- The number i is among the first k. -/
def amongB (O : List Int) (k i : Nat) : Bool := (List.range k).any (fun j => decide (O.getD j 0 = (i : Int)))
theorem amongB_iff {O : List Int} {k i : Nat} : amongB O k i = true ↔ AmongO O k i := by
  unfold amongB AmongO
  rw [List.any_eq_true]
  constructor
  · rintro ⟨j, hj, h⟩; exact ⟨j, List.mem_range.1 hj, by simpa using h⟩
  · rintro ⟨j, hj, h⟩; exact ⟨j, List.mem_range.2 hj, by simpa using h⟩
theorem amongB_next (O : List Int) (k i : Nat) : amongB O (k + 1) i = (amongB O k i || decide (O.getD k 0 = (i : Int))) := by
  unfold amongB; rw [List.range_succ, List.any_append]; simp
/-- A row of bools: which numbers are among the first k. -/
def PlacedAt (w : World) (g n : Nat) (O : List Int) (k : Nat) : Prop := ∀ i, i < n → w.cell? ⟨g, i, none⟩ = some (.bool (amongB O k i)) ∧ w.frozen? ⟨g, i, none⟩ = false
theorem PlacedAt.grown {w w' : World} {g n : Nat} {O : List Int} {k : Nat} {row : Option Nat} (h : PlacedAt w g n O k) (hg : w.grownBy w' row) (hne : some g ≠ row) : PlacedAt w' g n O k := by
  intro i hi
  obtain ⟨h1, h2⟩ := h i hi
  exact ⟨World.grownBy.cell hg h1 hne, (hg.frozen_far ⟨g, i, none⟩ (World.block_lt_of_cell? w ⟨g, i, none⟩ h1) hne).trans h2⟩
theorem PlacedAt.below {w w' : World} {g n : Nat} {O : List Int} {k : Nat} (h : PlacedAt w g n O k) (hb : Below w.heap.size w w') : PlacedAt w' g n O k := h.grown (Below.grownBy hb none) (by simp)
theorem PlacedAt.store {w : World} {g n : Nat} {O : List Int} {k X : Nat} (h : PlacedAt w g n O k) (hX : O.getD k 0 = (X : Int)) : PlacedAt (w.setCell ⟨g, X, none⟩ (.bool true)) g n O (k + 1) := by
  intro i hi
  obtain ⟨h1, h2⟩ := h i hi
  refine ⟨?_, by simp [go_sem, h2]⟩
  rw [amongB_next, hX]
  by_cases e : i = X
  · subst e
    rw [World.cell?_setCell_same _ _ _ h1]; simp
  · rw [World.cell?_setCell_other _ _ _ _ (fun q => e (by have q2 := congrArg Addr.off q; dsimp at q2; omega)), h1]
    have : decide ((X : Int) = (i : Int)) = false := by simp; omega
    rw [this, Bool.or_false]
theorem placedAt_made {w : World} {B g n : Nat} {e : TypeId} {O : List Int} (h : w.ownsRow B e 1 (.slice (some ⟨g, 0, none⟩) n n) n (madeCells (Value.bool false).cells (n * 1)).toList) : PlacedAt w g n O 0 := by
  intro i hi
  have hcl : (madeCells (Value.bool false).cells (n * 1)).toList = List.replicate n (.bool false) := by
    rw [Nat.mul_one]; exact (toList_madeCells_one _ _).trans rfl
  rw [hcl] at h
  refine ⟨?_, h.frozenAt _⟩
  rw [h.cellAt i (by omega), List.getElem?_replicate, if_pos hi]; rfl
/-- Of a list the first j are all among the first k of the order. -/
def AllIn (O : List Int) (k : Nat) (l : List Int) (j : Nat) : Prop := ∀ i, i < j → ∃ e : Nat, l.getD i 0 = e ∧ amongB O k e = true
theorem AllIn.next {O : List Int} {k j e : Nat} {l : List Int} (h : AllIn O k l j) (he : l.getD j 0 = e) (ha : amongB O k e = true) : AllIn O k l (j + 1) := by
  intro i hi
  rcases (by omega : i < j ∨ i = j) with h1 | rfl
  · exact h i h1
  · exact ⟨e, he, ha⟩
/-- What the program's test says of the place k. -/
theorem fitBy_of {L : List Acn} {O : List Int} {k X : Nat} (hX : O.getD k 0 = (X : Int)) (hn : X < L.length) (hp : amongB O k X = false) (ha : AllIn O k (befM L X X) (befM L X X).length) : FitBy L O k := by
  refine ⟨by omega, fun j hj e => ?_, fun m hm hc => ?_⟩
  · have : amongB O k X = true := amongB_iff.2 ⟨j, hj, by rw [e, hX]⟩
    rw [hp] at this; cases this
  · rw [hX] at hm hc
    have hmem : (m : Int) ∈ befM L X X := befM_mem.2 ⟨m, rfl, by omega, by rw [confM_symm]; simpa using hc⟩
    obtain ⟨i, hi, e⟩ := mem_getDI hmem
    obtain ⟨e2, h1, h2⟩ := ha i hi
    rw [e] at h1
    have : m = e2 := by omega
    rw [this]; exact amongB_iff.1 h2
theorem unfit_placed {L : List Acn} {O : List Int} {k X : Nat} (hX : O.getD k 0 = (X : Int)) (hp : amongB O k X = true) : ¬ FitBy L O k := by
  rintro ⟨-, h2, -⟩
  obtain ⟨j, hj, e⟩ := amongB_iff.1 hp
  exact h2 j hj (by rw [e, hX])
theorem unfit_before {L : List Acn} {O : List Int} {k X e : Nat} (hX : O.getD k 0 = (X : Int)) (he : (e : Int) ∈ befM L X X) (hp : amongB O k e = false) : ¬ FitBy L O k := by
  rintro ⟨-, -, h3⟩
  obtain ⟨e2, h4, h5, h6⟩ := befM_mem.1 he
  have : e = e2 := by omega
  subst this
  have := amongB_iff.2 (h3 e (by omega) (by rw [hX, confM_symm]; simpa using h6))
  rw [hp] at this; cases this
end Go.Proofs.Ytfhbolpchmdaoaa
/- The contracts of the program's conflicts: maskOf, usedKeysOf, usedKeys.conflict, Conflict (gen8/iconf.py). -/
namespace Go.Proofs.Ytfhbolpchmdaoaa
open Go.RowKit
set_option linter.unusedVariables false
set_option linter.unusedSimpArgs false
theorem ints_of_newN {w : World} {B : Nat} {e : TypeId} {v : Value} {l : List Int} (hl : l.length ≤ 4000000) (h : w.ownsRow B e 1 v l.length (l.map (Value.int .i64))) (hw : ∀ x ∈ l, (Lit.int .i64 x).wf = true) : (Sta.ints l).own w v := by
  obtain ⟨a, c, e1, r⟩ := rowI_of_owns h (by unfold maxLen; omega) hw
  exact ⟨a, c, e1, r⟩
set_option maxHeartbeats 1000000 in
theorem maskOf_impl (a : Option Addr) (n cap : Nat) (l : List Int) (w : World) (h : RowI w a n l) (hb : ∀ x ∈ l, 0 ≤ x ∧ x ≤ 31) :
    Calls Try.prog 87 #[.slice a n cap] w fun e w' => e = .returned (.int .u32 (maskM l : Nat)) ∧ w = w' := by
  obtain ⟨hl, hm, hc, -⟩ := h
  unfold maxLen at hm
  have HL := Lib.hid hl
  clear hl
  have HB := Lib.hid hb
  have HLT : Hid (∀ k, maskM (l.take k) < 4294967296) := Lib.hid (fun k => maskM_lt _ fun x hx => hb x (List.mem_of_mem_take hx))
  clear hb
  by_cases h0 : 0 < n
  · obtain ⟨B, off, rfl, hcc⟩ := hc h0; clear hc; have hc := hcc; clear hcc
    go_enter Try.func87, Try.ntmps87
    go_wp2
    go_loop [3, 8] (fun v i => ∃ k : Nat, k ≤ n ∧ i = .int .i64 k ∧ v = .int .u32 (maskM (l.take k) : Nat)) (fun _ i => n - (intOf i).toNat)
    case atStart => exact ⟨0, Nat.zero_le _, rfl, rfl⟩
    case round =>
      obtain ⟨k, hk, rfl, rfl⟩ := hrel
      by_cases hlt : k < n
      · have hck := hc k hlt
        have hxb := HB.out _ (getD_memI l k (by rw [HL.out]; exact hlt))
        have HNX := Lib.hid (maskM_next l k (by rw [HL.out]; exact hlt))
        have hlt2 := HLT.out k
        obtain ⟨x, hx⟩ : ∃ x, x = l.getD k 0 := ⟨_, rfl⟩
        rw [← hx] at hck hxb HNX
        clear hx hc
        obtain ⟨m, hmm⟩ : ∃ m, m = maskM (l.take k) := ⟨_, rfl⟩
        rw [← hmm] at HNX hlt2
        rw [← hmm]
        clear hmm
        have HX : Hid (bits .or .u32 (m : Int) (2 ^ x.toNat % 4294967296) = ((m ||| 2 ^ x.toNat : Nat) : Int)) := Lib.hid (by
          rw [← IntKind.wrap_u32, wrap_pow32 (by omega), bits_or_u32 _ _ hlt2 (pow_lt32 (by omega))])
        have hx0 := hxb.1
        have hx1 : x ≤ 32 := by omega
        clear hxb hlt2
        go_wp2
        go_round
        case rel => exact ⟨k + 1, by omega, by go_num, by rw [HNX.out, ← HX.out]⟩
        case measure => simp [intOf]; omega
      · obtain rfl : k = n := by omega
        have e : l.take k = l := List.take_of_length_le (by rw [HL.out]; omega)
        rw [e]
        clear hc e
        go_wp2
        go_ret
        exact ⟨rfl, rfl⟩
  · obtain rfl : n = 0 := by omega
    obtain rfl : l = [] := List.eq_nil_of_length_eq_zero HL.out
    clear hc
    go_enter Try.func87, Try.ntmps87
    go_wp2
    go_loop [3, 8] (fun v i => i = .int .i64 0 ∧ v = .int .u32 0) (fun _ _ => 0)
    case atStart => exact ⟨rfl, rfl⟩
    case round =>
      obtain ⟨rfl, rfl⟩ := hrel
      go_wp2
      go_ret
      exact ⟨rfl, rfl⟩
/-- What usedKeysOf answers. -/
def KeysB (x : Acn) (w : World) (e : Ending) (w' : World) : Prop := e = .returned (.agg #[.int .u32 (maskM (readsM x) : Nat), .int .u32 (maskM (writesM x) : Nat)]) ∧ Below w.heap.size w w'
/-- What is stored into the answer. -/
def FinK (w w5 : World) (G : Nat) (r m : Nat) (w' : World) : Prop := Below w.heap.size w w' ∧ w'.cell? ⟨G, 0, none⟩ = some (.int .u32 r) ∧ w'.cell? ⟨G, 1, none⟩ = some (.int .u32 m)
set_option maxRecDepth 100000 in
set_option maxHeartbeats 8000000 in
theorem usedKeysOf_impl (k s d m : Int) (w : World) :
    Calls Try.prog 57 #[.agg #[.int .i64 k, .int .i64 s, .int .i64 d, .int .i64 m]] w (KeysB ⟨k, s, d, m⟩ w) := by
  have HA0 := Lib.hid ((boxA_new w k s d m 24).alloc (.cells #[.int .u32 0, .int .u32 0] 79))
  have HBB0 := Lib.hid (((Below.refl w.heap.size w).alloc (Nat.le_refl _) (.cells #[.int .i64 k, .int .i64 s, .int .i64 d, .int .i64 m] 24)).alloc (by simp) (.cells #[.int .u32 0, .int .u32 0] 79))
  have HZ0 : Hid (∀ w', Below ((w.alloc (.cells #[.int .i64 k, .int .i64 s, .int .i64 d, .int .i64 m] 24)).alloc (.cells #[.int .u32 0, .int .u32 0] 79)).heap.size ((w.alloc (.cells #[.int .i64 k, .int .i64 s, .int .i64 d, .int .i64 m] 24)).alloc (.cells #[.int .u32 0, .int .u32 0] 79)) w' →
      w'.cell? ⟨w.heap.size + 1, 0, none⟩ = some (.int .u32 0) ∧ w'.cell? ⟨w.heap.size + 1, 1, none⟩ = some (.int .u32 0) ∧ w'.frozen? ⟨w.heap.size + 1, 0, none⟩ = false ∧ w'.frozen? ⟨w.heap.size + 1, 1, none⟩ = false ∧ w.heap.size + 1 < w'.heap.size) := Lib.hid (fun w' hb => by
    have hs := hb.size
    refine ⟨(hb.cell (p := ⟨w.heap.size + 1, 0, none⟩) (by simp)).trans (by simp [go_sem]), (hb.cell (p := ⟨w.heap.size + 1, 1, none⟩) (by simp)).trans (by simp [go_sem]), (hb.frozen (p := ⟨w.heap.size + 1, 0, none⟩) (by simp)).trans (by simp [go_sem]), (hb.frozen (p := ⟨w.heap.size + 1, 1, none⟩) (by simp)).trans (by simp [go_sem]), by simp at hs; omega⟩)
  go_enter Try.func57, Try.ntmps57
  go_wp2
  generalize hw5 : World.alloc _ _ = w5 at HA0 HBB0 HZ0
  have HA : Hid (BoxA w5 w.heap.size k s d m) := HA0
  have HBB : Hid (Below w.heap.size w w5) := HBB0
  have HZ := HZ0
  clear HA0 HBB0 HZ0 hw5
  refine wp_region_joint (by kernel_rfl) (fun lz fz wz => Vals [(0, 3, (.agg #[.int .i64 k, .int .i64 s, .int .i64 d, .int .i64 m])), (2, 5, (.int .u32 (maskM (readsM ⟨k, s, d, m⟩) : Nat))), (3, 6, (.agg #[.int .i64 k, .int .i64 s, .int .i64 d, .int .i64 m])), (5, 8, (.int .u32 (maskM (writesM ⟨k, s, d, m⟩) : Nat))), (6, 9, (.agg #[.int .u32 (maskM (readsM ⟨k, s, d, m⟩) : Nat), .int .u32 (maskM (writesM ⟨k, s, d, m⟩) : Nat)]))] lz fz ∧ FactsL w5 [(1, 4, Sta.ints (readsM ⟨k, s, d, m⟩)), (4, 7, Sta.ints (writesM ⟨k, s, d, m⟩))] 7 8 (FinK w w5 (w.heap.size + 1) (maskM (readsM ⟨k, s, d, m⟩)) (maskM (writesM ⟨k, s, d, m⟩))) lz fz wz) [3, 4, 5, 6, 7, 8, 9] (by kernel_rfl) (by kernel_rfl) (by kernel_rfl) (fun f => ⟨Vals.nothing _ f, FactsL.nothing _ _ _ _ _ f⟩) ?_ ?_
  · intro i hi
    rcases (by have : i < 8 := hi; omega : i = 0 ∨ i = 1 ∨ i = 2 ∨ i = 3 ∨ i = 4 ∨ i = 5 ∨ i = 6 ∨ i = 7) with rfl | rfl | rfl | rfl | rfl | rfl | rfl | rfl
    · clear hi; intro o ho lz fz w' hJ hli ha K hK
      obtain ⟨hv, hq⟩ := hJ
      obtain rfl := Option.some.inj ho
      clear ho
      simp only [mixF, List.contains_cons, List.contains_nil] at hK ⊢
      have hr := hq.now (i := 0) (by omega) hli
      obtain ⟨k0, k1, k2, k3⟩ := HA.out.below hr.1
      go_simp
      have := hK (.agg #[.int .i64 k, .int .i64 s, .int .i64 d, .int .i64 m]) w' ⟨hv.step 0 3 _ (by simp), hq.step 0 3 _ (by omega) hli (by omega) (Below.refl _ _) (by simp)⟩
      simpa [Act.put] using this
    · clear hi; intro o ho lz fz w' hJ hli ha K hK
      obtain ⟨hv, hq⟩ := hJ
      obtain rfl := Option.some.inj ho
      clear ho
      simp only [mixF, List.contains_cons, List.contains_nil] at hK ⊢
      have hr := hq.now (i := 1) (by omega) hli
      have h3 : fz 3 = (.agg #[.int .i64 k, .int .i64 s, .int .i64 d, .int .i64 m]) := hv (0, 3, (.agg #[.int .i64 k, .int .i64 s, .int .i64 d, .int .i64 m])) (by simp) (ha 0 (by simp [aftersOf, Region.binds]))
      go_simp
      refine (actionReads_impl k s d m _).mono ?_
      rintro e w9 ⟨v9, rfl, ho9, hw9, hb9⟩
      have hs := ints_of_newN (by have := readsM_len ⟨k, s, d, m⟩; omega) ho9 hw9
      have := hK v9 w9 ⟨hv.step 1 4 _ (by simp), hq.step 1 4 _ (by omega) hli (by omega) hb9 (by simp [hs])⟩
      simpa [Act.put, h3] using this
    · clear hi; intro o ho lz fz w' hJ hli ha K hK
      obtain ⟨hv, hq⟩ := hJ
      obtain rfl := Option.some.inj ho
      clear ho
      simp only [mixF, List.contains_cons, List.contains_nil] at hK ⊢
      have hr := hq.now (i := 2) (by omega) hli
      obtain ⟨a4, c4, h4, r4⟩ := hr.2 (1, 4, Sta.ints (readsM ⟨k, s, d, m⟩)) (by simp) (ha 1 (by simp [aftersOf, Region.binds]))
      go_simp
      refine (maskOf_impl a4 _ c4 _ _ r4 (readsM_bd _)).mono ?_
      rintro e w9 ⟨rfl, hw9⟩
      have hb9 : Below w'.heap.size w' w9 := hw9 ▸ Below.refl _ _
      have := hK (.int .u32 (maskM (readsM ⟨k, s, d, m⟩) : Nat)) w9 ⟨hv.step 2 5 _ (by simp), hq.step 2 5 _ (by omega) hli (by omega) hb9 (by simp)⟩
      simpa [Act.put, h4] using this
    · clear hi; intro o ho lz fz w' hJ hli ha K hK
      obtain ⟨hv, hq⟩ := hJ
      obtain rfl := Option.some.inj ho
      clear ho
      simp only [mixF, List.contains_cons, List.contains_nil] at hK ⊢
      have hr := hq.now (i := 3) (by omega) hli
      obtain ⟨k0, k1, k2, k3⟩ := HA.out.below hr.1
      go_simp
      have := hK (.agg #[.int .i64 k, .int .i64 s, .int .i64 d, .int .i64 m]) w' ⟨hv.step 3 6 _ (by simp), hq.step 3 6 _ (by omega) hli (by omega) (Below.refl _ _) (by simp)⟩
      simpa [Act.put] using this
    · clear hi; intro o ho lz fz w' hJ hli ha K hK
      obtain ⟨hv, hq⟩ := hJ
      obtain rfl := Option.some.inj ho
      clear ho
      simp only [mixF, List.contains_cons, List.contains_nil] at hK ⊢
      have hr := hq.now (i := 4) (by omega) hli
      have h6 : fz 6 = (.agg #[.int .i64 k, .int .i64 s, .int .i64 d, .int .i64 m]) := hv (3, 6, (.agg #[.int .i64 k, .int .i64 s, .int .i64 d, .int .i64 m])) (by simp) (ha 3 (by simp [aftersOf, Region.binds]))
      go_simp
      refine (actionWrites_impl k s d m _).mono ?_
      rintro e w9 ⟨v9, rfl, ho9, hw9, hb9⟩
      have hs := ints_of_newN (by have := writesM_len ⟨k, s, d, m⟩; omega) ho9 hw9
      have := hK v9 w9 ⟨hv.step 4 7 _ (by simp), hq.step 4 7 _ (by omega) hli (by omega) hb9 (by simp [hs])⟩
      simpa [Act.put, h6] using this
    · clear hi; intro o ho lz fz w' hJ hli ha K hK
      obtain ⟨hv, hq⟩ := hJ
      obtain rfl := Option.some.inj ho
      clear ho
      simp only [mixF, List.contains_cons, List.contains_nil] at hK ⊢
      have hr := hq.now (i := 5) (by omega) hli
      obtain ⟨a7, c7, h7, r7⟩ := hr.2 (4, 7, Sta.ints (writesM ⟨k, s, d, m⟩)) (by simp) (ha 4 (by simp [aftersOf, Region.binds]))
      go_simp
      refine (maskOf_impl a7 _ c7 _ _ r7 (writesM_bd _)).mono ?_
      rintro e w9 ⟨rfl, hw9⟩
      have hb9 : Below w'.heap.size w' w9 := hw9 ▸ Below.refl _ _
      have := hK (.int .u32 (maskM (writesM ⟨k, s, d, m⟩) : Nat)) w9 ⟨hv.step 5 8 _ (by simp), hq.step 5 8 _ (by omega) hli (by omega) hb9 (by simp)⟩
      simpa [Act.put, h7] using this
    · clear hi; intro o ho lz fz w' hJ hli ha K hK
      obtain ⟨hv, hq⟩ := hJ
      obtain rfl := Option.some.inj ho
      clear ho
      simp only [mixF, List.contains_cons, List.contains_nil] at hK ⊢
      have hr := hq.now (i := 6) (by omega) hli
      have h5 : fz 5 = (.int .u32 (maskM (readsM ⟨k, s, d, m⟩) : Nat)) := hv (2, 5, (.int .u32 (maskM (readsM ⟨k, s, d, m⟩) : Nat))) (by simp) (ha 2 (by simp [aftersOf, Region.binds]))
      have h8 : fz 8 = (.int .u32 (maskM (writesM ⟨k, s, d, m⟩) : Nat)) := hv (5, 8, (.int .u32 (maskM (writesM ⟨k, s, d, m⟩) : Nat))) (by simp) (ha 5 (by simp [aftersOf, Region.binds]))
      go_simp
      have := hK (.agg #[.int .u32 (maskM (readsM ⟨k, s, d, m⟩) : Nat), .int .u32 (maskM (writesM ⟨k, s, d, m⟩) : Nat)]) w' ⟨hv.step 6 9 _ (by simp), hq.step 6 9 _ (by omega) hli (by omega) (Below.refl _ _) (by simp)⟩
      simpa [Act.put, h5, h8] using this
    · clear hi; intro o ho lz fz w' hJ hli ha K hK
      obtain ⟨hv, hq⟩ := hJ
      obtain rfl := Option.some.inj ho
      clear ho
      simp only [mixF, List.contains_cons, List.contains_nil] at hK ⊢
      have hr := hq.now (i := 7) (by omega) hli
      have h9 : fz 9 = (.agg #[.int .u32 (maskM (readsM ⟨k, s, d, m⟩) : Nat), .int .u32 (maskM (writesM ⟨k, s, d, m⟩) : Nat)]) := hv (6, 9, (.agg #[.int .u32 (maskM (readsM ⟨k, s, d, m⟩) : Nat), .int .u32 (maskM (writesM ⟨k, s, d, m⟩) : Nat)])) (by simp) (ha 6 (by simp [aftersOf, Region.binds]))
      obtain ⟨z0, z1, z2, z3, z4⟩ := HZ.out _ hr.1
      have hbz := HBB.out.trans (hr.1.mono HBB.out.size)
      go_simp
      have hall : ∀ i, i < 8 → i ≠ 7 → lz i = true := by
        intro i hi hne
        rcases (by omega : i = 0 ∨ i = 1 ∨ i = 2 ∨ i = 3 ∨ i = 4 ∨ i = 5 ∨ i = 6) with rfl | rfl | rfl | rfl | rfl | rfl | rfl <;> exact ha _ (by simp [aftersOf, Region.binds])
      have := hK undef _ ⟨hv.stepN 7 _ (by simp), FactsL.last hall ⟨(hbz.setCell (p := ⟨w.heap.size + 1, 0, none⟩) (by simp) (.int .u32 (maskM (readsM ⟨k, s, d, m⟩) : Nat))).setCell (p := ⟨w.heap.size + 1, 1, none⟩) (by simp) (.int .u32 (maskM (writesM ⟨k, s, d, m⟩) : Nat)), by simp [go_sem, z0, z1], by simp [go_sem, z0, z1]⟩⟩
      simpa [Act.put, h9] using this
  · intro lz fz w' hall hJ
    obtain ⟨hv, hq⟩ := hJ
    have hbR := (hq.2 (hall 7 (by decide))).2
    clear hv hq hall
    simp only [mixF, List.contains_cons, List.contains_nil]
    go_simp
    obtain ⟨hbF, z0, z1⟩ := hbR
    go_wp2
    exact bodyPost_ret (v := .agg #[.int .u32 (maskM (readsM ⟨k, s, d, m⟩) : Nat), .int .u32 (maskM (writesM ⟨k, s, d, m⟩) : Nat)]) (by simp [results, Try.results57, go_sem, z0, z1]) rfl ⟨rfl, hbF⟩
set_option maxHeartbeats 2000000 in
theorem confl_impl (r1 m1 r2 m2 : Nat) (w : World) (h1 : r1 < 4294967296) (h2 : m1 < 4294967296) (h3 : r2 < 4294967296) (h4 : m2 < 4294967296) :
    Calls Try.prog 58 #[.agg #[.int .u32 r1, .int .u32 m1], .agg #[.int .u32 r2, .int .u32 m2]] w (BoolB (decide (m1 &&& (r2 ||| m2) ≠ 0) || decide (r1 &&& m2 ≠ 0)) w) := by
  have q1 := bits_or_u32 r2 m2 h3 h4
  obtain ⟨o, ho⟩ : ∃ o, o = r2 ||| m2 := ⟨_, rfl⟩
  have ho2 : o < 4294967296 := by rw [ho]; exact Nat.or_lt_two_pow (n := 32) (by omega) (by omega)
  rw [← ho] at q1 ⊢
  have q2 := bits_and_u32 m1 o h2 ho2
  have q3 := bits_and_u32 r1 m2 h1 h4
  obtain ⟨x, hx⟩ : ∃ x, x = m1 &&& o := ⟨_, rfl⟩
  obtain ⟨y, hy⟩ : ∃ y, y = r1 &&& m2 := ⟨_, rfl⟩
  rw [← hx] at q2 ⊢
  rw [← hy] at q3 ⊢
  clear hx hy ho ho2 h1 h2 h3 h4
  have hf : ∀ b : Bool, b = (decide (x ≠ 0) || decide (y ≠ 0)) → BoolB b w (.returned (.bool b)) ((w.alloc (.cells #[.int .u32 r1, .int .u32 m1] 79)).alloc (.cells #[.int .u32 r2, .int .u32 m2] 79)) := fun b _ => ⟨rfl, ((Below.refl _ _).alloc (Nat.le_refl _) _).alloc (by simp) _⟩
  have HF := Lib.hid hf
  clear hf
  by_cases hx0 : x = 0
  · subst hx0
    by_cases hy0 : y = 0
    · subst hy0
      go_enter Try.func58, Try.ntmps58
      go_wp2
      go_ret
      exact HF.out false rfl
    · have e1 : ((y : Int) != 0) = true := by simp; omega
      have HE : Hid ((decide ((0 : Nat) ≠ 0) || decide (y ≠ 0)) = true) := Lib.hid (by simp [hy0])
      rw [HE.out]
      have HG := Lib.hid (HF.out true HE.out.symm)
      clear hy0 HE HF
      go_enter Try.func58, Try.ntmps58
      go_wp2
      go_ret
      exact HG.out
  · have e1 : ((x : Int) != 0) = true := by simp; omega
    have HE : Hid ((decide (x ≠ 0) || decide (y ≠ 0)) = true) := Lib.hid (by simp [hx0])
    rw [HE.out]
    have HG := Lib.hid (HF.out true HE.out.symm)
    clear hx0 HE HF
    go_enter Try.func58, Try.ntmps58
    go_wp2
    go_ret
    exact HG.out
theorem maskR_lt (x : Acn) : maskM (readsM x) < 4294967296 := maskM_lt _ (readsM_bd x)
theorem maskW_lt (x : Acn) : maskM (writesM x) < 4294967296 := maskM_lt _ (writesM_bd x)
theorem mask_conf (x y : Acn) : (decide (maskM (writesM x) &&& (maskM (readsM y) ||| maskM (writesM y)) ≠ 0) || decide (maskM (readsM x) &&& maskM (writesM y) ≠ 0)) = confM x y := by
  have e := fun (z : Acn) n (h : n ∈ readsM z) => (readsM_bd z n h).1
  have e2 := fun (z : Acn) n (h : n ∈ writesM z) => (writesM_bd z n h).1
  rw [mask_common2 (e2 x) (e y) (e2 y), mask_common (e x) (e2 y)]
  rfl
set_option maxRecDepth 100000 in
set_option maxHeartbeats 8000000 in
theorem conflict_impl (p q r t p2 q2 r2 t2 : Int) (w : World) :
    Calls Try.prog 15 #[.agg #[.int .i64 p, .int .i64 q, .int .i64 r, .int .i64 t], .agg #[.int .i64 p2, .int .i64 q2, .int .i64 r2, .int .i64 t2]] w (BoolB (confM ⟨p, q, r, t⟩ ⟨p2, q2, r2, t2⟩) w) := by
  have HA0 := Lib.hid ((boxA_new w p q r t 24).alloc (.cells #[.int .i64 p2, .int .i64 q2, .int .i64 r2, .int .i64 t2] 24))
  have HB0 := Lib.hid (boxA_new (w.alloc (.cells #[.int .i64 p, .int .i64 q, .int .i64 r, .int .i64 t] 24)) p2 q2 r2 t2 24)
  have HBB := Lib.hid (((Below.refl w.heap.size w).alloc (Nat.le_refl _) (.cells #[.int .i64 p, .int .i64 q, .int .i64 r, .int .i64 t] 24)).alloc (by simp) (.cells #[.int .i64 p2, .int .i64 q2, .int .i64 r2, .int .i64 t2] 24))
  go_enter Try.func15, Try.ntmps15
  go_wp2
  generalize hw5 : World.alloc _ _ = w5 at HA0 HB0 HBB
  have HA : Hid (BoxA w5 w.heap.size p q r t) := HA0
  have HB : Hid (BoxA w5 (w.heap.size + 1) p2 q2 r2 t2) := by simpa using HB0
  clear HA0 HB0 hw5
  refine wp_region_joint (by kernel_rfl) (fun lz fz wz => Vals [(0, 5, (.agg #[.int .i64 p, .int .i64 q, .int .i64 r, .int .i64 t])), (1, 6, (.agg #[.int .u32 (maskM (readsM ⟨p, q, r, t⟩) : Nat), .int .u32 (maskM (writesM ⟨p, q, r, t⟩) : Nat)])), (2, 7, (.agg #[.int .i64 p2, .int .i64 q2, .int .i64 r2, .int .i64 t2])), (3, 8, (.agg #[.int .u32 (maskM (readsM ⟨p2, q2, r2, t2⟩) : Nat), .int .u32 (maskM (writesM ⟨p2, q2, r2, t2⟩) : Nat)])), (4, 9, (.bool (confM ⟨p, q, r, t⟩ ⟨p2, q2, r2, t2⟩))), (5, 4, (.bool (confM ⟨p, q, r, t⟩ ⟨p2, q2, r2, t2⟩)))] lz fz ∧ Facts w5 [] lz fz wz) [5, 6, 7, 8, 9, 4] (by kernel_rfl) (by kernel_rfl) (by kernel_rfl) (fun f => ⟨Vals.nothing _ f, Facts.nothing _ _ f⟩) ?_ ?_
  · intro i hi
    rcases (by have : i < 6 := hi; omega : i = 0 ∨ i = 1 ∨ i = 2 ∨ i = 3 ∨ i = 4 ∨ i = 5) with rfl | rfl | rfl | rfl | rfl | rfl
    · clear hi; intro o ho lz fz w' hJ hli ha K hK
      obtain ⟨hv, hq⟩ := hJ
      obtain rfl := Option.some.inj ho
      clear ho
      simp only [mixF, List.contains_cons, List.contains_nil] at hK ⊢
      have hr := hq
      obtain ⟨k0, k1, k2, k3⟩ := HA.out.below hr.1
      go_simp
      have := hK (.agg #[.int .i64 p, .int .i64 q, .int .i64 r, .int .i64 t]) w' ⟨hv.step 0 5 _ (by simp), hq.step 0 5 _ (Below.refl _ _) (by simp)⟩
      simpa [Act.put] using this
    · clear hi; intro o ho lz fz w' hJ hli ha K hK
      obtain ⟨hv, hq⟩ := hJ
      obtain rfl := Option.some.inj ho
      clear ho
      simp only [mixF, List.contains_cons, List.contains_nil] at hK ⊢
      have hr := hq
      have h5 : fz 5 = (.agg #[.int .i64 p, .int .i64 q, .int .i64 r, .int .i64 t]) := hv (0, 5, (.agg #[.int .i64 p, .int .i64 q, .int .i64 r, .int .i64 t])) (by simp) (ha 0 (by simp [aftersOf, Region.binds]))
      go_simp
      refine (usedKeysOf_impl p q r t _).mono ?_
      rintro e w9 ⟨rfl, hb9⟩
      have := hK (.agg #[.int .u32 (maskM (readsM ⟨p, q, r, t⟩) : Nat), .int .u32 (maskM (writesM ⟨p, q, r, t⟩) : Nat)]) w9 ⟨hv.step 1 6 _ (by simp), hq.step 1 6 _ hb9 (by simp)⟩
      simpa [Act.put, h5] using this
    · clear hi; intro o ho lz fz w' hJ hli ha K hK
      obtain ⟨hv, hq⟩ := hJ
      obtain rfl := Option.some.inj ho
      clear ho
      simp only [mixF, List.contains_cons, List.contains_nil] at hK ⊢
      have hr := hq
      obtain ⟨k0, k1, k2, k3⟩ := HB.out.below hr.1
      go_simp
      have := hK (.agg #[.int .i64 p2, .int .i64 q2, .int .i64 r2, .int .i64 t2]) w' ⟨hv.step 2 7 _ (by simp), hq.step 2 7 _ (Below.refl _ _) (by simp)⟩
      simpa [Act.put] using this
    · clear hi; intro o ho lz fz w' hJ hli ha K hK
      obtain ⟨hv, hq⟩ := hJ
      obtain rfl := Option.some.inj ho
      clear ho
      simp only [mixF, List.contains_cons, List.contains_nil] at hK ⊢
      have hr := hq
      have h7 : fz 7 = (.agg #[.int .i64 p2, .int .i64 q2, .int .i64 r2, .int .i64 t2]) := hv (2, 7, (.agg #[.int .i64 p2, .int .i64 q2, .int .i64 r2, .int .i64 t2])) (by simp) (ha 2 (by simp [aftersOf, Region.binds]))
      go_simp
      refine (usedKeysOf_impl p2 q2 r2 t2 _).mono ?_
      rintro e w9 ⟨rfl, hb9⟩
      have := hK (.agg #[.int .u32 (maskM (readsM ⟨p2, q2, r2, t2⟩) : Nat), .int .u32 (maskM (writesM ⟨p2, q2, r2, t2⟩) : Nat)]) w9 ⟨hv.step 3 8 _ (by simp), hq.step 3 8 _ hb9 (by simp)⟩
      simpa [Act.put, h7] using this
    · clear hi; intro o ho lz fz w' hJ hli ha K hK
      obtain ⟨hv, hq⟩ := hJ
      obtain rfl := Option.some.inj ho
      clear ho
      simp only [mixF, List.contains_cons, List.contains_nil] at hK ⊢
      have hr := hq
      have h6 : fz 6 = (.agg #[.int .u32 (maskM (readsM ⟨p, q, r, t⟩) : Nat), .int .u32 (maskM (writesM ⟨p, q, r, t⟩) : Nat)]) := hv (1, 6, (.agg #[.int .u32 (maskM (readsM ⟨p, q, r, t⟩) : Nat), .int .u32 (maskM (writesM ⟨p, q, r, t⟩) : Nat)])) (by simp) (ha 1 (by simp [aftersOf, Region.binds]))
      have h8 : fz 8 = (.agg #[.int .u32 (maskM (readsM ⟨p2, q2, r2, t2⟩) : Nat), .int .u32 (maskM (writesM ⟨p2, q2, r2, t2⟩) : Nat)]) := hv (3, 8, (.agg #[.int .u32 (maskM (readsM ⟨p2, q2, r2, t2⟩) : Nat), .int .u32 (maskM (writesM ⟨p2, q2, r2, t2⟩) : Nat)])) (by simp) (ha 3 (by simp [aftersOf, Region.binds]))
      go_simp
      refine (confl_impl _ _ _ _ _ (maskR_lt _) (maskW_lt _) (maskR_lt _) (maskW_lt _)).mono ?_
      rintro e w9 ⟨rfl, hb9⟩
      rw [mask_conf]
      have := hK (.bool (confM ⟨p, q, r, t⟩ ⟨p2, q2, r2, t2⟩)) w9 ⟨hv.step 4 9 _ (by simp), hq.step 4 9 _ hb9 (by simp)⟩
      simpa [Act.put, h6, h8] using this
    · clear hi; intro o ho lz fz w' hJ hli ha K hK
      obtain ⟨hv, hq⟩ := hJ
      obtain rfl := Option.some.inj ho
      clear ho
      simp only [mixF, List.contains_cons, List.contains_nil] at hK ⊢
      have hr := hq
      have h9 : fz 9 = (.bool (confM ⟨p, q, r, t⟩ ⟨p2, q2, r2, t2⟩)) := hv (4, 9, (.bool (confM ⟨p, q, r, t⟩ ⟨p2, q2, r2, t2⟩))) (by simp) (ha 4 (by simp [aftersOf, Region.binds]))
      go_simp
      have := hK (.bool (confM ⟨p, q, r, t⟩ ⟨p2, q2, r2, t2⟩)) w' ⟨hv.step 5 4 _ (by simp), hq.step 5 4 _ (Below.refl _ _) (by simp)⟩
      simpa [Act.put, h9] using this
  · intro lz fz w' hall hJ
    obtain ⟨hv, hq⟩ := hJ
    have h4 : fz 4 = (.bool (confM ⟨p, q, r, t⟩ ⟨p2, q2, r2, t2⟩)) := hv (5, 4, (.bool (confM ⟨p, q, r, t⟩ ⟨p2, q2, r2, t2⟩))) (by simp) (hall 5 (by decide))
    have hbR := hq.1
    clear hv hq hall
    simp only [mixF, List.contains_cons, List.contains_nil]
    go_simp
    go_wp2
    go_ret
    exact ⟨rfl, HBB.out.trans (hbR.mono HBB.out.size)⟩
end Go.Proofs.Ytfhbolpchmdaoaa
/- The contract of the program's conflictsBefore. -/
namespace Go.Proofs.Ytfhbolpchmdaoaa
open Go.RowKit
set_option linter.unusedVariables false
set_option linter.unusedSimpArgs false
theorem infoUsed : (Try.prog.info? 79).map (fun i => (i.zero, i.size, i.bytes)) = some (some (.agg #[.int .u32 0, .int .u32 0]), 2, 8) := by kernel_rfl
theorem infoRowI : (Try.prog.info? 43).map (fun i => (i.zero, i.size, i.bytes)) = some (some (.slice none 0 0), 1, 24) := by kernel_rfl
/-- New rows of ints. -/
def NewRR (w : World) (eR eI : TypeId) (LL : List (List Int)) (e : Ending) (w' : World) : Prop := ∃ v, e = .returned v ∧ OwnLL w' w.heap.size w'.heap.size eR eI v LL ∧ Below w.heap.size w w' ∧ ∃ g, v = .slice (some ⟨g, 0, none⟩) LL.length LL.length
set_option maxHeartbeats 4000000 in
theorem conflictsBefore_impl (a : Option Addr) (n cap : Nat) (L : List Acn) (w : World) (h : RowA w a n L) (hn10 : n ≤ 10) :
    Calls Try.prog 70 #[.slice a n cap] w (NewRR w 43 3 (befR L n n 0)) := by
  have HW := Lib.hid h
  have HN := Lib.hid h.1
  clear h
  obtain ⟨i0, hi, hz0, hz1, hz2⟩ := info_parts infoUsed
  obtain ⟨i1, gi, gz0, gz1, gz2⟩ := info_parts infoRowI
  have HGI := Lib.hid gi
  have HG0 := Lib.hid gz0
  have HG1 := Lib.hid gz1
  have HG2 := Lib.hid gz2
  clear gi gz0 gz1 gz2
  have HSTEP : Hid (∀ (wm wx : World), Below w.heap.size w wm → Below wm.heap.size wm wx → Below w.heap.size w wx) := Lib.hid (fun wm wx h1 h2 => h1.trans (h2.mono h1.size))
  by_cases h0 : 0 < n
  · obtain ⟨b, off, rfl, -⟩ := HW.out.2.2.1 h0
    go_enter Try.func70, Try.ntmps70
    go_wp2_with (first | (at_make; refine wpList_make_full _ rfl (.tmp 9) (.tmp 9) 121 rfl w.heap.size 79 i0 (.agg #[.int .u32 0, .int .u32 0]) 2 Try.underlying121 hi hz0 hz1 .i64 .i64 n n n rfl rfl rfl rfl (by rw [hz2]; omega) (by unfold maxLen; omega) (Nat.le_refl _) ?_; intro w1 hown hgrow; clear hi hz0 hz1 hz2) | (at_make; refine wpList_make_full _ rfl (.tmp 12) (.tmp 12) 89 rfl w1.heap.size 43 i1 (.slice none 0 0) 1 Try.underlying89 HGI.out HG0.out HG1.out .i64 .i64 n n n rfl rfl rfl rfl (by rw [HG2.out]; omega) (by unfold maxLen; omega) (Nat.le_refl _) ?_; intro w2 hown2 hgrow2))
    have hb1 : Below w.heap.size w w1 := (Below.refl _ _).grown hgrow (Nat.le_refl _) (fun k hk => by simp at hk)
    have hb2 : Below w.heap.size w w2 := hb1.grown hgrow2 hb1.size (fun k hk => by simp at hk)
    have hgU : w.heap.size < w1.heap.size := (hown.lt _ rfl).2
    have HU2 := Lib.hid ((usedAt_made (L := L) hown).grown hgrow2 (by simp))
    obtain ⟨gB, hgB⟩ : ∃ gB, gB = w1.heap.size := ⟨_, rfl⟩
    rw [← hgB] at hown2 hgU ⊢
    have HL2 : Hid (OwnLL w2 gB w2.heap.size 43 3 (.slice (some ⟨gB, 0, none⟩) n n) (befR L n 0 0)) := Lib.hid (by rw [befR_zero]; exact ownLL_made hown2 (fun p hp => (hown2.lt p (by rw [← owns_blk hown2]; exact hp)).2))
    have HB2 := Lib.hid hb2
    clear hown hgrow hown2 hgrow2 hb1 hb2 hgB HGI HG0 HG1 HG2
    go_loopw [16] (fun i wr => ∃ k : Nat, k ≤ n ∧ i = .int .i64 k ∧ UsedAt wr w.heap.size n L k ∧ OwnLL wr gB wr.heap.size 43 3 (.slice (some ⟨gB, 0, none⟩) n n) (befR L n k 0) ∧ Below w.heap.size w wr) (fun i _ => n - (intOf i).toNat)
    case atStart => exact ⟨0, Nat.zero_le _, rfl, HU2.out, HL2.out, HB2.out⟩
    case round =>
      clear HU2 HL2 HB2
      obtain ⟨k, hk, rfl, hU, hL, hb⟩ := hrel
      by_cases hlt : k < n
      · obtain ⟨c0, c1, c2, c3⟩ := (HW.out.below hb).cells hlt
        have HST : Hid (∀ wq, UsedAt wq w.heap.size n L k → UsedAt ((wq.setCell ⟨w.heap.size, k * 2, none⟩ (.int .u32 (maskM (readsM (L.getD k noA)) : Nat))).setCell ⟨w.heap.size, k * 2 + 1, none⟩ (.int .u32 (maskM (writesM (L.getD k noA)) : Nat))) w.heap.size n L (k + 1)) := Lib.hid (fun wq h => h.store hlt)
        obtain ⟨x, hx⟩ : ∃ x, x = L.getD k noA := ⟨_, rfl⟩
        rw [← hx] at c0 c1 c2 c3 HST
        have HX := Lib.hid hx
        clear hx
        obtain ⟨p, q, r, t⟩ := x
        simp only at c0 c1 c2 c3
        have hbA := (Below.refl wr.heap.size wr).alloc (Nat.le_refl _) (.cells #[.int .i64 p, .int .i64 q, .int .i64 r, .int .i64 t] 24)
        have HU := Lib.hid hU
        have HL := Lib.hid hL
        have HB := Lib.hid hb
        have HBA := Lib.hid hbA
        have hk0 : (0 : Int) ≤ (k : Int) := by omega
        have hk1 : (k : Int) < (n : Int) := by omega
        have hwr := hb.size
        clear hU hL hb hbA
        go_wp2_with fail
        refine (usedKeysOf_impl p q r t _).mono ?_; rintro e w3 ⟨rfl, hb3⟩
        have hb4 := HBA.out.trans (hb3.mono HBA.out.size)
        have hU3 := HU.out.below hb4
        obtain ⟨u0, u1, s0, s1, s2, s3, -⟩ := hU3 k hlt
        have HU3 := Lib.hid (HST.out w3 hU3)
        have HL3 := Lib.hid ((HL.out.below hb4).mono (Nat.le_refl gB) hb4.size)
        have HB3 := Lib.hid (HB.out.trans (hb4.mono HB.out.size))
        clear hb3 hb4 hU3 HST HU HL HB HBA
        go_upto_region 7 with (fail)
        generalize hw4 : World.setCell _ _ _ = w4
        have hU4 : UsedAt w4 w.heap.size n L (k + 1) := by rw [← hw4]; exact HU3.out
        have hs4 : w4.heap.size = w3.heap.size := by rw [← hw4]; simp [World.setCell]
        have hL4 : OwnLL w4 gB w4.heap.size 43 3 (.slice (some ⟨gB, 0, none⟩) n n) (befR L n k 0) := by
          rw [hs4, ← hw4]
          exact HL3.out.turn (((Turn.refl w.heap.size (w.heap.size + 1) w3).setCell ⟨by omega, by omega⟩ _ _).setCell ⟨by omega, by omega⟩ _ _) (.inr (.inl (by omega)))
        have hb4 : Below w.heap.size w w4 := by
          rw [← hw4]
          exact (HB3.out.setCell (p := ⟨w.heap.size, k * 2, none⟩) (Nat.le_refl _) _).setCell (p := ⟨w.heap.size, k * 2 + 1, none⟩) (Nat.le_refl _) _
        have HU4 := Lib.hid hU4
        have HL4 := Lib.hid hL4
        have HB4 := Lib.hid hb4
        clear hw4 hU4 hs4 hL4 hb4 HU3 HL3 HB3 u0 u1 s0 s1 s2 s3
        go_wp2
        go_loopw [27] (fun i wr => ∃ j : Nat, j ≤ k ∧ i = .int .i64 j ∧ UsedAt wr w.heap.size n L (k + 1) ∧ OwnLL wr gB wr.heap.size 43 3 (.slice (some ⟨gB, 0, none⟩) n n) (befR L n k j) ∧ Below w.heap.size w wr) (fun i _ => k - (intOf i).toNat)
        case atStart => exact ⟨0, Nat.zero_le _, rfl, HU4.out, HL4.out, HB4.out⟩
        case round =>
          clear HU4 HL4 HB4 c0 c1 c2 c3
          obtain ⟨j, hj, rfl, hU, hL, hb⟩ := hrel
          by_cases hjt : j < k
          · have hjn : j < n := by omega
            obtain ⟨x0, x1, a0, a1, a2, a3, a4⟩ := hU k hlt
            obtain ⟨rfl, rfl⟩ := a4 (by omega)
            obtain ⟨y0, y1, b0, b1, b2, b3, b4⟩ := hU j hjn
            obtain ⟨rfl, rfl⟩ := b4 (by omega)
            have hgl : k < (befR L n k j).length := by rw [befR_len]; exact hlt
            obtain ⟨xv, d0, d1, d2, d3, d4, d5, d6, -⟩ := hL.cell k hgl
            have hbl := befM_len L k j
            rw [befR_get L n k j k hlt, if_neg (by omega), if_pos rfl] at d1 d2 d3
            obtain ⟨xa, xc, hxv, hxr⟩ := rowI_of_owns d1 (by unfold maxLen; omega) d2
            subst hxv
            have HOW := Lib.hid d1
            have HU := Lib.hid hU
            have HL := Lib.hid hL
            have HB := Lib.hid hb
            have HWX := Lib.hid d2
            have hgUr : w.heap.size < wr.heap.size := hU.lt (by omega)
            have HD4 := Lib.hid d4
            have HCF := Lib.hid (fun h => befR_set L n k j h)
            have HCS := Lib.hid (fun h => befR_same L n k j h)
            have HLN : Hid ((befR L n k j).length = n) := Lib.hid (befR_len L n k j)
            obtain ⟨u, hu⟩ : ∃ u, u = confM (L.getD k noA) (L.getD j noA) := ⟨_, rfl⟩
            have HMC := Lib.hid ((mask_conf (L.getD k noA) (L.getD j noA)).trans hu.symm)
            rw [← hu] at HCF HCS
            obtain ⟨X, hX⟩ : ∃ X, X = L.getD k noA := ⟨_, rfl⟩
            obtain ⟨Y, hY⟩ : ∃ Y, Y = L.getD j noA := ⟨_, rfl⟩
            rw [← hX] at a0 a1 HMC
            rw [← hY] at b0 b1 HMC
            have hj0 : (0 : Int) ≤ (j : Int) := by omega
            have hj1 : (j : Int) < (n : Int) := by omega
            clear hu hX hY a2 a3 b2 b3 d1 d2 d4 hxr hU hL hb HX a4 b4 hbl
            go_wp2
            go_region_with (go_at_call 58; refine (confl_impl _ _ _ _ _ (maskR_lt _) (maskW_lt _) (maskR_lt _) (maskW_lt _)).mono ?_; rintro e w5 ⟨rfl, hb5⟩; rw [HMC.out]; have hbq := (Below.refl wr.heap.size wr).drew.trans hb5)
            all_goals
              have hd0 := (hbq.cell (p := ⟨gB, k, none⟩) d6).trans d0
              have hd5 := (hbq.frozen (p := ⟨gB, k, none⟩) d6).trans d5
              have HU5 := Lib.hid (HU.out.below hbq)
              have HL5 := Lib.hid ((HL.out.below hbq).mono (Nat.le_refl gB) hbq.size)
              have HB5 := Lib.hid (HB.out.trans (hbq.mono HB.out.size))
              have HO5 := Lib.hid (owns_below HOW.out hbq)
              have hsq := hbq.size
              clear hb5 hbq d0 d5 a0 a1 b0 b1 HU HL HB HOW
              cases u with
              | false =>
                have HE := Lib.hid (HCS.out rfl)
                clear HCS HCF
                go_wp2
                go_roundw
                case rel => exact ⟨j + 1, by omega, by go_num, HU5.out, by rw [HE.out]; exact HL5.out, HB5.out⟩
                case measure => simp [intOf]; omega
              | true =>
                have HE := Lib.hid (HCF.out rfl)
                clear HCS HCF
                have hbl6 := befM_len L k j
                go_wp2_with (at_builtin; refine wpList_append_one_at rfl _ _ 43 rfl 0 3 _ (.int .i64 0) 1 8 Try.underlying43 infoIntC rfl (by decide) _ _ _ [.int .i64 (j : Int)] (by rfl) HO5.out (by rfl) rfl ?c11 ?c21 (by decide) (Nat.zero_le _) ?_)
                case c11 => intro u hu; simp at hu; subst hu; rfl
                case c21 => omega
                intro v6 w6 ho6 hg6 hat6
                have hl6 : (befM L k j).length + 1 = (befM L k j ++ [(j : Int)]).length := by simp
                rw [hl6, show (befM L k j).map (Value.int .i64) ++ [.int .i64 (j : Int)] = (befM L k j ++ [(j : Int)]).map (Value.int .i64) by simp] at ho6
                have hP := HL5.out.put k (by rw [HLN.out]; exact hlt) hd0 (befM L k j ++ [(j : Int)]) hg6 ho6 (by
                  intro z hz
                  rcases List.mem_append.1 hz with h1 | h1
                  · exact HWX.out z h1
                  · simp at h1; subst h1; exact WalkArith.wf_i64 (by omega)) (by simp; omega) hat6 (by omega) (Nat.le_refl _)
                obtain ⟨a6, c6, hv6, -⟩ := rowI_of_owns ho6 (by unfold maxLen; simp; omega) (by
                  intro z hz
                  rcases List.mem_append.1 hz with h1 | h1
                  · exact HWX.out z h1
                  · simp at h1; subst h1; exact WalkArith.wf_i64 (by omega))
                rw [← hl6] at hv6
                subst hv6
                have hneg : some gB ≠ (Value.slice xa (befM L k j).length xc).ownBlock := fun e => by have := HD4.out gB e.symm; omega
                have hneU : some w.heap.size ≠ (Value.slice xa (befM L k j).length xc).ownBlock := fun e => by have := HD4.out w.heap.size e.symm; omega
                have hal := (Below.refl w5.heap.size w5).alloc (Nat.le_refl _) (.cells #[.int .i64 (j : Int)] 3)
                have hg5 : gB < w5.heap.size := World.block_lt_of_cell? w5 ⟨gB, k, none⟩ hd0
                have e0 := World.grownBy.cell hg6 ((hal.cell (p := ⟨gB, k, none⟩) hg5).trans hd0) hneg
                have e1 := (hg6.frozen_far ⟨gB, k, none⟩ (by simp; omega) hneg).trans ((hal.frozen (p := ⟨gB, k, none⟩) hg5).trans hd5)
                have hs6 := hg6.size
                have hU6 := ((HU5.out.below hal).grown hg6 hneU).grown (grownBy_set w6 gB k (.slice a6 ((befM L k j).length + 1) c6)) (by simp; omega)
                have hb6 := ((HB5.out.trans (hal.mono HB5.out.size)).grown hg6 (by simp; omega) (fun q hq => by have := HD4.out q hq; omega)).setCell (p := ⟨gB, k, none⟩) (show w.heap.size ≤ gB by omega) (.slice a6 ((befM L k j).length + 1) c6)
                have HUF := Lib.hid hU6
                have HBF := Lib.hid hb6
                rw [HE.out] at hP
                have HPF := Lib.hid hP
                clear hP hU6 hb6 hal hg6 ho6 hat6 hneg hneU HO5 hl6
                go_wp2
                go_roundw
                case rel => exact ⟨j + 1, by omega, by go_num, HUF.out, by first | exact HPF.out | (simp only [World.setCell] at HPF ⊢; simpa using HPF.out), HBF.out⟩
                case measure => simp [intOf]; omega
          · obtain rfl : j = k := by omega
            rw [befR_up] at hL
            go_wp2
            go_roundw
            case rel => exact ⟨j + 1, by omega, by go_num, hU, hL, hb⟩
            case measure => simp [intOf]; omega
      · obtain rfl : k = n := by omega
        go_wp2
        go_ret
        exact ⟨_, rfl, hL.mono (by omega) (Nat.le_refl _), hb, gB, by rw [befR_len]; rfl⟩
  · obtain rfl : n = 0 := by omega
    go_enter Try.func70, Try.ntmps70
    go_wp2_with (first | (at_make; refine wpList_make_full _ rfl (.tmp 9) (.tmp 9) 121 rfl w.heap.size 79 i0 (.agg #[.int .u32 0, .int .u32 0]) 2 Try.underlying121 hi hz0 hz1 .i64 .i64 0 0 0 rfl rfl rfl rfl (by rw [hz2]; omega) (by unfold maxLen; omega) (Nat.le_refl _) ?_; intro w1 hown hgrow; clear hi hz0 hz1 hz2) | (at_make; refine wpList_make_full _ rfl (.tmp 12) (.tmp 12) 89 rfl w1.heap.size 43 i1 (.slice none 0 0) 1 Try.underlying89 HGI.out HG0.out HG1.out .i64 .i64 0 0 0 rfl rfl rfl rfl (by rw [HG2.out]; omega) (by unfold maxLen; omega) (Nat.le_refl _) ?_; intro w2 hown2 hgrow2))
    have hb1 : Below w.heap.size w w1 := (Below.refl _ _).grown hgrow (Nat.le_refl _) (fun k hk => by simp at hk)
    have hb2 : Below w.heap.size w w2 := hb1.grown hgrow2 hb1.size (fun k hk => by simp at hk)
    have hL2 : OwnLL w2 w.heap.size w2.heap.size 43 3 (.slice (some ⟨w1.heap.size, 0, none⟩) 0 0) (befR L 0 0 0) := by rw [befR_zero]; exact (ownLL_made hown2 (fun p hp => (hown2.lt p (by rw [← owns_blk hown2]; exact hp)).2)).mono hb1.size (Nat.le_refl _)
    have HL2 := Lib.hid hL2
    have HB2 := Lib.hid hb2
    clear hown hgrow hown2 hgrow2 hb1 hb2 HGI HG0 HG1 HG2 hL2
    go_loopw [16] (fun i wr => i = .int .i64 0 ∧ wr = w2) (fun _ _ => 0)
    case atStart => exact ⟨rfl, rfl⟩
    case round =>
      obtain ⟨rfl, rfl⟩ := hrel
      go_wp2
      go_ret
      exact ⟨_, rfl, HL2.out, HB2.out, _, rfl⟩
end Go.Proofs.Ytfhbolpchmdaoaa
/- The contract of the program's LevelsOf. -/
namespace Go.Proofs.Ytfhbolpchmdaoaa
open Go.RowKit
set_option linter.unusedVariables false
set_option linter.unusedSimpArgs false
theorem levelsM_wf64 (L : List Acn) : ∀ x ∈ levelsM L, (Lit.int .i64 x).wf = true := fun x hx => by
  have := levelsM_wf L x hx
  exact WalkArith.wf_i64 (by omega)
theorem RowI.setAt {w : World} {a : Option Addr} {n : Nat} {l : List Int} (h : RowI w a n l) {g : Nat} (hne : ∀ b o, a = some ⟨b, o, none⟩ → b ≠ g) (o : Nat) (v : Value) : RowI (w.setCell ⟨g, o, none⟩ v) a n l := by
  obtain ⟨h1, h2, h3, h4⟩ := h
  refine ⟨h1, h2, fun hl => ?_, h4⟩
  obtain ⟨b, off, he, hc⟩ := h3 hl
  refine ⟨b, off, he, fun i hi => ?_⟩
  rw [World.cell?_setCell_other _ _ _ _ (fun q => hne b off he (congrArg Addr.block q).symm)]
  exact hc i hi
set_option maxHeartbeats 4000000 in
theorem levelsOf_impl (a : Option Addr) (n cap : Nat) (L : List Acn) (w : World) (h : RowA w a n L) :
    Calls Try.prog 23 #[.slice a n cap] w (NewLN w (levelsM L)) := by
  have HW := Lib.hid h
  have HN := Lib.hid h.1
  clear h
  cases hA : actsB L with
  | false =>
    have HP := Lib.hid (levelsM_no hA)
    go_enter Try.func23, Try.ntmps23
    go_wp2_with fail
    refine (actionsValid_impl a n cap L _ HW.out).mono ?_; rintro e w1 ⟨rfl, hb1⟩
    rw [hA]
    clear hA
    go_wp2
    go_ret
    exact ⟨_, rfl, by rw [HP.out]; exact World.ownsRow_nil _ _ _ _, (by rw [HP.out]; intro x hx; cases hx), hb1⟩
  | true =>
    have hn10 : n ≤ 10 := by have := (actsB_true hA).1; rw [← HN.out]; exact this
    have HP : Hid (levelsM L = levN L n) := Lib.hid (by rw [levelsM, if_pos hA, HN.out])
    have HA := Lib.hid hA
    obtain ⟨i0, hi, hz0, hz1, hz2⟩ := info_parts infoIntC
    go_enter Try.func23, Try.ntmps23
    go_wp2_with fail
    refine (actionsValid_impl a n cap L _ HW.out).mono ?_; rintro e w1 ⟨rfl, hb1⟩
    rw [hA]
    clear hA
    go_wp2_with (first | (at_make; refine wpList_make_full _ rfl (.tmp 12) (.tmp 12) 43 rfl w1.heap.size 3 i0 (.int .i64 0) 1 Try.underlying43 hi hz0 hz1 .i64 .i64 n n n rfl rfl rfl rfl (by rw [hz2]; omega) (by unfold maxLen; omega) (Nat.le_refl _) ?_; intro w2 hown hgrow; clear hi hz0 hz1 hz2) | fail)
    have hcells : (madeCells (Value.int .i64 0).cells (n * 1)).toList = (lvR L n 0 0).map (Value.int .i64) := by
      rw [lvR_zero, Nat.mul_one]; exact (toList_madeCells_one _ _).trans (by simp)
    rw [hcells] at hown; clear hcells
    have hb2 : Below w.heap.size w w2 := hb1.grown hgrow hb1.size (fun k hk => by simp at hk)
    obtain ⟨gL, hgL⟩ : ∃ gL, gL = w1.heap.size := ⟨_, rfl⟩
    have hgw : w.heap.size ≤ gL := by rw [hgL]; exact hb1.size
    have hg2 : gL < w2.heap.size := by rw [hgL]; exact (hown.lt _ rfl).2
    rw [← hgL] at hown ⊢
    clear hgrow hb1 hgL
    refine (conflictsBefore_impl a n cap L _ (HW.out.below hb2) hn10).mono ?_; rintro e w3 ⟨v3, rfl, hL3, hb3, gB, hv3⟩
    subst hv3
    have hR3 := owns_below hown hb3
    have hgB : w2.heap.size ≤ gB := (hL3.choose_spec.blk_lt _ List.mem_cons_self gB rfl).1
    have HR3 := Lib.hid hR3
    have HL3 := Lib.hid hL3
    have HB3 := Lib.hid (hb2.trans (hb3.mono hb2.size))
    have HLN : Hid ((befR L n n 0).length = n) := Lib.hid (befR_len L n n 0)
    rw [HLN.out]
    clear hown hb2 hL3 hb3 hR3
    go_wp2
    go_loopw [17] (fun i wr => ∃ k : Nat, k ≤ n ∧ i = .int .i64 k ∧ wr.ownsRow gL 3 1 (.slice (some ⟨gL, 0, none⟩) n n) n ((lvR L n k 0).map (Value.int .i64)) ∧ OwnLL wr w2.heap.size w3.heap.size 43 3 (.slice (some ⟨gB, 0, none⟩) n n) (befR L n n 0) ∧ Below w.heap.size w wr) (fun i _ => n - (intOf i).toNat)
    case atStart => exact ⟨0, Nat.zero_le _, rfl, HR3.out, by rw [HLN.out] at HL3; exact HL3.out, HB3.out⟩
    case round =>
      clear HR3 HL3 HB3
      obtain ⟨k, hk, rfl, hR, hL, hb⟩ := hrel
      by_cases hlt : k < n
      · have hgl : k < (befR L n n 0).length := by rw [befR_len]; exact hlt
        obtain ⟨xv, d0, d1, d2, d3, d4, d5, d6, -⟩ := hL.cell k hgl
        have hbl := befM_len L k k
        rw [befR_get L n n 0 k hlt, if_pos hlt] at d1 d2 d3
        obtain ⟨xa, xc, hxv, hxr⟩ := rowI_of_owns d1 (by unfold maxLen; omega) d2
        subst hxv
        have hBM : ∀ i, i < (befM L k k).length → ∃ e : Nat, (befM L k k).getD i 0 = e ∧ e < k := fun i hi => by
          obtain ⟨e, h1, h2, -⟩ := befM_mem.1 (getD_memI _ i hi); exact ⟨e, h1, h2⟩
        have HBM := Lib.hid hBM
        have HFI : Hid (maxB (levN L k) (befM L k k) (befM L k k).length = maxLv L (levN L k) k k) := Lib.hid (maxB_bef L _ k k)
        have HBD := Lib.hid (maxB_bd (levN L k) (befM L k k) 10 (fun i => levN_all L k (by omega) i) (by omega))
        obtain ⟨P, hP⟩ : ∃ P, P = befM L k k := ⟨_, rfl⟩
        obtain ⟨m, hm⟩ : ∃ m, m = (befM L k k).length := ⟨_, rfl⟩
        rw [← hm] at HFI hxr d0 hbl HBM
        rw [← hP] at HFI hxr HBM HBD
        have HR0 := Lib.hid hR
        have HL0 := Lib.hid hL
        have HB0 := Lib.hid hb
        have HXR := Lib.hid hxr
        have hdb : ∀ b o, xa = some ⟨b, o, none⟩ → b ≠ gL := fun b o he e => by
          subst he
          have := d4 b rfl
          omega
        have HDB := Lib.hid hdb
        have hPl : P.length = m := by rw [hP, hm]
        have HPL := Lib.hid hPl
        clear hR hL hb d1 d2 d3 d4 hm hP hBM hxr hdb hPl hgl d5
        by_cases hm0 : 0 < m
        · obtain ⟨b1, o1, rfl, -⟩ := HXR.out.2.2.1 hm0
          go_wp2
          go_loopw [24] (fun i wr => ∃ j : Nat, j ≤ m ∧ i = .int .i64 j ∧ wr.ownsRow gL 3 1 (.slice (some ⟨gL, 0, none⟩) n n) n ((lvR L n k (maxB (levN L k) P j)).map (Value.int .i64)) ∧ OwnLL wr w2.heap.size w3.heap.size 43 3 (.slice (some ⟨gB, 0, none⟩) n n) (befR L n n 0) ∧ RowI wr (some ⟨b1, o1, none⟩) m P ∧ Below w.heap.size w wr) (fun i _ => m - (intOf i).toNat)
          case atStart => exact ⟨0, Nat.zero_le _, rfl, HR0.out, HL0.out, HXR.out, HB0.out⟩
          case round =>
            clear HR0 HL0 HXR HB0 d0
            obtain ⟨j, hj, rfl, hR, hL, hX, hb⟩ := hrel
            by_cases hjt : j < m
            · obtain ⟨b', o', he', hcl⟩ := hX.2.2.1 (by omega)
              obtain ⟨rfl, rfl⟩ : b1 = b' ∧ o1 = o' := by simpa using he'
              have hc0 := hcl j hjt
              obtain ⟨e, hPe, hek⟩ := HBM.out j hjt
              rw [hPe] at hc0
              have hen : e < n := by omega
              have hck := hR.cellAt k (by omega)
              have hce := hR.cellAt e (by omega)
              have hgk : ((lvR L n k (maxB (levN L k) P j)).map (Value.int .i64))[k]? = some (.int .i64 (maxB (levN L k) P j)) := by
                rw [List.getElem?_map, lvR, List.getElem?_map, List.getElem?_range hlt]; simp
              have hge : ((lvR L n k (maxB (levN L k) P j)).map (Value.int .i64))[e]? = some (.int .i64 ((levN L k).getD e 0)) := by
                rw [List.getElem?_map, lvR, List.getElem?_map, List.getElem?_range hen]
                simp only [Option.map_some, if_pos hek]
              rw [hgk] at hck
              rw [hge] at hce
              have hfr := hR.frozenAt k
              have hbm := HBD.out j
              have hbe := levN_all L k (by omega) e
              have HST := Lib.hid (fun v : Int => (hR.stored k (.int .i64 v)).1)
              have HNX : Hid (maxB (levN L k) P (j + 1) = if maxB (levN L k) P j < (levN L k).getD e 0 + 1 then (levN L k).getD e 0 + 1 else maxB (levN L k) P j) := Lib.hid (by
                show max (maxB (levN L k) P j) ((levN L k).getD (P.getD j 0).toNat 0 + 1) = _
                rw [hPe]
                show max (maxB (levN L k) P j) ((levN L k).getD e 0 + 1) = _
                split <;> omega)
              have HSE : Hid (∀ v v' : Int, ((lvR L n k v).map (Value.int .i64)).set k (.int .i64 v') = (lvR L n k v').map (Value.int .i64)) := Lib.hid (fun v v' => by rw [← List.map_set, lvR_set])
              have HL0 := Lib.hid hL
              have HX0 := Lib.hid hX
              have HB0 := Lib.hid hb
              have hg3 : gL + 1 ≤ w2.heap.size := hg2
              have hk0 : (0 : Int) ≤ (k : Int) := by omega
              have hk1 : (k : Int) < (n : Int) := by omega
              have he0 : (0 : Int) ≤ (e : Int) := by omega
              have he1 : (e : Int) < (n : Int) := by omega
              obtain ⟨x, hx⟩ : ∃ x, x = maxB (levN L k) P j := ⟨_, rfl⟩
              obtain ⟨u, hu⟩ : ∃ u, u = (levN L k).getD e 0 := ⟨_, rfl⟩
              rw [← hx] at hck HNX HST hbm
              rw [← hu] at hce HNX hbe
              clear hx hu hcl hPe hgk hge he' hR hL hX hb
              go_wp2
              go_region
              all_goals
                go_wp2
                go_roundw
                case rel => exact ⟨j + 1, by omega, by go_num, by rw [HNX.out, ← HSE.out x]; exact HST.out _, HL0.out.turn (((Turn.refl gL (gL + 1) wr).setCell ⟨Nat.le_refl _, by omega⟩ _ _).trans ⟨rfl, rfl, rfl, Nat.le_refl _, fun _ _ _ => rfl⟩) (.inr (.inl hg3)), HX0.out.setAt (fun b o h => HDB.out b o h) _ _, (HB0.out.setCell (p := ⟨gL, k, none⟩) hgw _).drew⟩
                case measure => simp [intOf]; omega
            · obtain rfl : j = m := by omega
              rw [HFI.out, lvR_up] at hR
              go_wp2
              go_roundw
              case rel => exact ⟨k + 1, by omega, by go_num, hR, hL, hb⟩
              case measure => simp [intOf]; omega
        · obtain rfl : m = 0 := by omega
          have HR1 : Hid (wr.ownsRow gL 3 1 (.slice (some ⟨gL, 0, none⟩) n n) n ((lvR L n (k + 1) 0).map (Value.int .i64))) := Lib.hid (by rw [← lvR_up, ← HFI.out]; exact HR0.out)
          go_wp2
          go_loopw [24] (fun i w9 => i = .int .i64 0 ∧ w9 = wr) (fun _ _ => 0)
          case atStart => exact ⟨rfl, rfl⟩
          case round =>
            obtain ⟨rfl, rfl⟩ := hrel
            go_wp2
            go_roundw
            case rel => exact ⟨k + 1, by omega, by go_num, HR1.out, HL0.out, HB0.out⟩
            case measure => simp [intOf]; omega
      · obtain rfl : k = n := by omega
        have hwf : ∀ x ∈ levN L k, (Lit.int .i64 x).wf = true := by rw [← HP.out]; exact levelsM_wf64 L
        rw [lvR_all] at hR
        have HWF := Lib.hid hwf
        clear hwf
        go_wp2
        go_ret
        exact ⟨_, rfl, by rw [HP.out, levN_len]; exact owns_mono hR hgw, by rw [HP.out]; exact HWF.out, hb⟩
end Go.Proofs.Ytfhbolpchmdaoaa
/- The contract of the program's OrderFits. -/
namespace Go.Proofs.Ytfhbolpchmdaoaa
open Go.RowKit
set_option linter.unusedVariables false
set_option linter.unusedSimpArgs false
theorem infoBool : (Try.prog.info? 4).map (fun i => (i.zero, i.size, i.bytes)) = some (some (.bool false), 1, 1) := by kernel_rfl
set_option maxHeartbeats 4000000 in
theorem orderFits_impl (a : Option Addr) (n cap : Nat) (L : List Acn) (b : Option Addr) (m c2 : Nat) (O : List Int) (w : World) (h : RowA w a n L) (h2 : RowI w b m O) :
    Calls Try.prog 28 #[.slice a n cap, .slice b m c2] w (BoolB (fitsM L O) w) := by
  have HW := Lib.hid h
  have HO := Lib.hid h2
  have HN := Lib.hid h.1
  have HM := Lib.hid h2.1
  have hml := h2.2.1
  unfold maxLen at hml
  clear h h2
  cases hA : actsB L with
  | false =>
    have HP := Lib.hid (fitsM_acts (O := O) hA)
    go_enter Try.func28, Try.ntmps28
    go_wp2_with fail
    refine (actionsValid_impl a n cap L _ HW.out).mono ?_; rintro e w1 ⟨rfl, hb1⟩
    rw [hA]
    clear hA
    go_wp2
    go_ret
    exact ⟨by rw [HP.out]; rfl, hb1⟩
  | true =>
    have hn10 : n ≤ 10 := by have := (actsB_true hA).1; rw [← HN.out]; exact this
    have HA := Lib.hid hA
    by_cases hmn : m = n
    · subst hmn
      obtain ⟨i0, hi, hz0, hz1, hz2⟩ := info_parts infoBool
      go_enter Try.func28, Try.ntmps28
      go_wp2_with fail
      refine (actionsValid_impl a m cap L _ HW.out).mono ?_; rintro e w1 ⟨rfl, hb1⟩
      rw [hA]
      clear hA
      go_wp2_with fail
      refine (conflictsBefore_impl a m cap L _ (HW.out.below hb1) hn10).mono ?_; rintro e w2 ⟨v2, rfl, hL2, hb2, gB, hv2⟩
      subst hv2
      rw [befR_len]
      have hgB := hL2.choose_spec.blk_lt _ List.mem_cons_self gB rfl
      go_wp2_with (first | (at_make; refine wpList_make_full _ rfl (.tmp 24) (.tmp 24) 94 rfl w2.heap.size 4 i0 (.bool false) 1 Try.underlying94 hi hz0 hz1 .i64 .i64 m m m rfl rfl rfl rfl (by rw [hz2]; omega) (by unfold maxLen; omega) (Nat.le_refl _) ?_; intro w3 hown hgrow; clear hi hz0 hz1 hz2))
      have hb12 := hb1.trans (hb2.mono hb1.size)
      have hb3 : Below w.heap.size w w3 := hb12.grown hgrow hb12.size (fun k hk => by simp at hk)
      have hb23 : Below w2.heap.size w2 w3 := (Below.refl _ _).grown hgrow (Nat.le_refl _) (fun k hk => by simp at hk)
      have hP3 := placedAt_made (O := O) hown
      have hL3 := hL2.below hb23
      obtain ⟨gP, hgP⟩ : ∃ gP, gP = w2.heap.size := ⟨_, rfl⟩
      have hwP : w.heap.size ≤ gP := by rw [hgP]; exact hb12.size
      rw [← hgP] at hP3 hL3 hgB ⊢
      have HP3 := Lib.hid hP3
      have HL3 := Lib.hid hL3
      have HB3 := Lib.hid hb3
      have HLN : Hid ((befR L m m 0).length = m) := Lib.hid (befR_len L m m 0)
      have HO3 := Lib.hid (HO.out.below hb3)
      have HOP : Hid (∀ q o, b = some ⟨q, o, none⟩ → q < gP ∨ m = 0) := Lib.hid (fun q o e => by
        rcases Nat.eq_zero_or_pos m with h0 | h0
        · exact .inr h0
        · obtain ⟨q', o', he, hc⟩ := HO.out.2.2.1 h0
          rw [he] at e
          simp at e
          have := World.block_lt_of_cell? w ⟨q', o' + 0, none⟩ (hc 0 h0)
          simp at this
          exact .inl (by omega))
      clear hb12 hb3 hb23 hP3 hL3 hown hgrow hL2 hb2 hb1 hgP
      have hw1 : w1.heap.size ≤ gB := hgB.1
      have hgBP : gB < gP := by omega
      clear hgB
      by_cases h0 : 0 < m
      · obtain ⟨b1, o1, rfl, -⟩ := HO.out.2.2.1 h0
        go_loopw [28] (fun i wr => ∃ k : Nat, k ≤ m ∧ i = .int .i64 k ∧ (∀ j, j < k → FitBy L O j) ∧ PlacedAt wr gP m O k ∧ OwnLL wr w1.heap.size gP 43 3 (.slice (some ⟨gB, 0, none⟩) m m) (befR L m m 0) ∧ RowI wr (some ⟨b1, o1, none⟩) m O ∧ Below w.heap.size w wr) (fun i _ => m - (intOf i).toNat)
        case atStart => exact ⟨0, Nat.zero_le _, rfl, fun j hj => absurd hj (Nat.not_lt_zero j), HP3.out, by have := HL3.out; rw [HLN.out] at this; exact this, HO3.out, HB3.out⟩
        case round =>
          clear HP3 HL3 HO3 HB3
          obtain ⟨k, hk, rfl, hfit, hP, hL, hO, hb⟩ := hrel
          by_cases hlt : k < m
          · obtain ⟨b', o', he', hcl⟩ := hO.2.2.1 h0
            obtain ⟨rfl, rfl⟩ : b1 = b' ∧ o1 = o' := by simpa using he'
            have hc0 := hcl k hlt
            have hxb := hO.bd k hlt
            have HNF := Lib.hid (fun h => fitsM_byNo (L := L) (O := O) (k := k) (by rw [HN.out]; exact hlt) h)
            have HFIT := Lib.hid hfit
            have HP0 := Lib.hid hP
            have HL0 := Lib.hid hL
            have HO0 := Lib.hid hO
            have HB0 := Lib.hid hb
            have hgPr : gP < wr.heap.size := World.block_lt_of_cell? wr ⟨gP, 0, none⟩ (hP 0 h0).1
            clear hcl he' hfit hP hL hO hb
            by_cases hx0 : O.getD k 0 < 0
            · have HF := Lib.hid (HNF.out (fun hf => by have := hf.1; omega))
              clear HNF
              generalize O.getD k 0 = x at *
              go_wp2
              go_ret
              exact ⟨by rw [HF.out]; rfl, HB0.out⟩
            by_cases hx1 : (m : Int) ≤ O.getD k 0
            · have HF := Lib.hid (HNF.out (fun hf => by have := hf.1; rw [HN.out] at this; omega))
              clear HNF
              generalize O.getD k 0 = x at *
              go_wp2
              go_ret
              exact ⟨by rw [HF.out]; rfl, HB0.out⟩
            obtain ⟨X, hX⟩ : ∃ X : Nat, O.getD k 0 = (X : Int) := ⟨(O.getD k 0).toNat, by omega⟩
            have hXm : X < m := by omega
            have HX := Lib.hid hX
            rw [hX] at hc0
            have hXi0 : (0 : Int) ≤ (X : Int) := by omega
            have hXi1 : (X : Int) < (m : Int) := by omega
            have hXi2 : ¬ (m : Int) ≤ (X : Int) := by omega
            clear hx0 hx1 hxb hX
            obtain ⟨e0, e1⟩ := HP0.out X hXm
            cases hpl : amongB O k X with
            | true =>
              have HF := Lib.hid (HNF.out (unfit_placed HX.out hpl))
              rw [hpl] at e0
              clear HNF hpl
              go_wp2
              go_ret
              exact ⟨by rw [HF.out]; rfl, HB0.out⟩
            | false =>
              rw [hpl] at e0
              have HPL := Lib.hid hpl
              have hgl : X < (befR L m m 0).length := by rw [befR_len]; exact hXm
              obtain ⟨xv, d0, d1, d2, d3, d4, d5, d6, -⟩ := HL0.out.cell X hgl
              have hbl := befM_len L X X
              rw [befR_get L m m 0 X hXm, if_pos hXm] at d1 d2 d3
              obtain ⟨xa, xc, hxv, hxr⟩ := rowI_of_owns d1 (by unfold maxLen; omega) d2
              subst hxv
              have HBM : Hid (∀ i, i < (befM L X X).length → ∃ e : Nat, (befM L X X).getD i 0 = e ∧ e < X) := Lib.hid (fun i hi => by
                obtain ⟨e, h1, h2, -⟩ := befM_mem.1 (getD_memI _ i hi); exact ⟨e, h1, h2⟩)
              have HUN : Hid (∀ (i e : Nat), i < (befM L X X).length → (befM L X X).getD i 0 = e → amongB O k e = false → fitsM L O = false) := Lib.hid (fun i e hi he hp => HNF.out (unfit_before HX.out (by rw [← he]; exact getD_memI _ i hi) hp))
              have HFB : Hid (AllIn O k (befM L X X) (befM L X X).length → FitBy L O k) := Lib.hid (fun ha => fitBy_of HX.out (by rw [HN.out]; exact hXm) HPL.out ha)
              obtain ⟨P, hP⟩ : ∃ P, P = befM L X X := ⟨_, rfl⟩
              obtain ⟨r, hr⟩ : ∃ r, r = (befM L X X).length := ⟨_, rfl⟩
              rw [← hr] at hxr d0 hbl HBM HUN HFB
              rw [← hP] at hxr HBM HUN HFB
              have HXR := Lib.hid hxr
              have HST : Hid (PlacedAt (wr.setCell ⟨gP, X, none⟩ (.bool true)) gP m O (k + 1)) := Lib.hid (HP0.out.store HX.out)
              have HLT : Hid (OwnLL (wr.setCell ⟨gP, X, none⟩ (.bool true)) w1.heap.size gP 43 3 (.slice (some ⟨gB, 0, none⟩) m m) (befR L m m 0)) := Lib.hid (HL0.out.turn ((Turn.refl gP (gP + 1) wr).setCell ⟨Nat.le_refl _, by omega⟩ _ _) (.inl (Nat.le_refl _)))
              have HOT : Hid (RowI (wr.setCell ⟨gP, X, none⟩ (.bool true)) (some ⟨b1, o1, none⟩) m O) := Lib.hid (HO0.out.setAt (fun q o e => by have := HOP.out q o e; omega) _ _)
              have HBT : Hid (Below w.heap.size w (wr.setCell ⟨gP, X, none⟩ (.bool true))) := Lib.hid (HB0.out.setCell (p := ⟨gP, X, none⟩) hwP _)
              have HNXT : Hid ((∀ j, j < k → FitBy L O j) → FitBy L O k → ∀ j, j < k + 1 → FitBy L O j) := Lib.hid (fun h1 h2 j hj => by
                rcases (by omega : j < k ∨ j = k) with h3 | rfl
                · exact h1 j h3
                · exact h2)
              clear hpl d1 d2 d3 d4 d5 hxr hP hr hgl HNF
              by_cases hr0 : 0 < r
              · obtain ⟨b2, o2, rfl, -⟩ := HXR.out.2.2.1 hr0
                go_wp2
                go_loopw [51] (fun i w9 => ∃ j : Nat, j ≤ r ∧ i = .int .i64 j ∧ AllIn O k P j ∧ w9 = wr) (fun i _ => r - (intOf i).toNat)
                case atStart => exact ⟨0, Nat.zero_le _, rfl, fun j hj => absurd hj (Nat.not_lt_zero j), rfl⟩
                case round =>
                  obtain ⟨j, hj, rfl, hall, rfl⟩ := hrel
                  by_cases hjt : j < r
                  · obtain ⟨b', o', he', hcl⟩ := HXR.out.2.2.1 hr0
                    obtain ⟨rfl, rfl⟩ : b2 = b' ∧ o2 = o' := by simpa using he'
                    have hcj := hcl j hjt
                    obtain ⟨e, hPe, heX⟩ := HBM.out j hjt
                    rw [hPe] at hcj
                    have hem : e < m := by omega
                    obtain ⟨f0, f1⟩ := HP0.out e hem
                    have HPE := Lib.hid hPe
                    have HAL := Lib.hid hall
                    have hee0 : (0 : Int) ≤ (e : Int) := by omega
                    have hee1 : (e : Int) < (m : Int) := by omega
                    clear hcl he' hPe hall
                    cases hae : amongB O k e with
                    | true =>
                      have HN2 := Lib.hid (HAL.out.next HPE.out hae)
                      rw [hae] at f0
                      clear hae HAL
                      go_wp2
                      go_roundw
                      case rel => exact ⟨j + 1, by omega, by go_num, HN2.out, by trivial⟩
                      case measure => simp [intOf]; omega
                    | false =>
                      have HF := Lib.hid (HUN.out j e hjt HPE.out hae)
                      rw [hae] at f0
                      clear hae HAL
                      go_wp2
                      go_ret
                      exact ⟨by rw [HF.out]; rfl, HB0.out⟩
                  · obtain rfl : j = r := by omega
                    have HFK := Lib.hid (HFB.out hall)
                    clear hall
                    go_wp2
                    go_roundw
                    case rel => exact ⟨k + 1, by omega, by go_num, HNXT.out HFIT.out HFK.out, HST.out, HLT.out, HOT.out, HBT.out⟩
                    case measure => simp [intOf]; omega
              · obtain rfl : r = 0 := by omega
                have HFK := Lib.hid (HFB.out (fun i hi => absurd hi (Nat.not_lt_zero i)))
                go_wp2
                go_loopw [51] (fun i w9 => i = .int .i64 0 ∧ w9 = wr) (fun _ _ => 0)
                case atStart => exact ⟨rfl, rfl⟩
                case round =>
                  obtain ⟨rfl, rfl⟩ := hrel
                  go_wp2
                  go_roundw
                  case rel => exact ⟨k + 1, by omega, by go_num, HNXT.out HFIT.out HFK.out, HST.out, HLT.out, HOT.out, HBT.out⟩
                  case measure => simp [intOf]; omega
          · obtain rfl : k = m := by omega
            have HF := Lib.hid (fitsM_byYes HA.out (HM.out.trans HN.out.symm) (by rw [HN.out]; exact hfit))
            clear hfit
            go_wp2
            go_ret
            exact ⟨by rw [HF.out]; rfl, hb⟩
      · obtain rfl : m = 0 := by omega
        have HF := Lib.hid (fitsM_byYes HA.out (HM.out.trans HN.out.symm) (by rw [HN.out]; intro k hk; omega))
        go_loopw [28] (fun i wr => i = .int .i64 0 ∧ wr = w3) (fun _ _ => 0)
        case atStart => exact ⟨rfl, rfl⟩
        case round =>
          obtain ⟨rfl, rfl⟩ := hrel
          go_wp2
          go_ret
          exact ⟨by rw [HF.out]; rfl, HB3.out⟩
    · have HP := Lib.hid (fitsM_len (L := L) (O := O) (by rw [HM.out, HN.out]; exact hmn))
      have hd : decide ((m : Int) = (n : Int)) = false := by simp; omega
      have hd2 : ((m : Int) != (n : Int)) = true := by simp; omega
      have HMN := Lib.hid hmn
      clear hmn
      go_enter Try.func28, Try.ntmps28
      go_wp2_with fail
      refine (actionsValid_impl a n cap L _ HW.out).mono ?_; rintro e w1 ⟨rfl, hb1⟩
      rw [hA]
      clear hA
      go_wp2
      go_ret
      exact ⟨by rw [HP.out]; rfl, hb1⟩
end Go.Proofs.Ytfhbolpchmdaoaa

/- The walk of the law FnEffectsSum. -/
import Derived.Test.YtpnahncmhldgdaaLawActR
import Derived.Test.YtpnahncmhldgdaaImplSer
import Derived.Test.YtpnahncmhldgdaaSerRaw
import Derived.Test.YtpnahncmhldgdaaMoreWalks
import Derived.Test.YtpnahncmhldgdaaDrawFs
import Derived.Test.YtpnahncmhldgdaaRegionJoint
import Derived.Deep.QuietTactic
import Derived.Deep.RegionLaw
import Derived.BigQuiet
namespace Go.Proofs.Ytpnahncmhldgdaa
open Go.RowKit
set_option linter.unusedVariables false
theorem al_cl2 {w : World} {G o : Nat} {v : Value} (hc : w.cell? ⟨G, o, none⟩ = some v) : ∀ x, (w.alloc x).cell? ⟨G, o, none⟩ = some v := fun x =>
  below_cl ((Below.refl w.heap.size w).alloc (Nat.le_refl _) x) (World.block_lt_of_cell? w ⟨G, o, none⟩ hc) hc
theorem lit3_cell (w : World) (T : TypeId) {p q r : Value} : ∀ j u, ([p, q, r] : List Value)[j]? = some u → (w.alloc (.cells #[p, q, r] T)).cell? ⟨w.heap.size, j, none⟩ = some u := fun j u hu => by
  match j, hu with
  | 0, hu => simp at hu; subst hu; simp [go_sem]
  | 1, hu => simp at hu; subst hu; simp [go_sem]
  | 2, hu => simp at hu; subst hu; simp [go_sem]
  | (j + 3), hu => simp at hu
theorem news_of {W : World} {g : Nat} {news : List Value} (h : ∀ j u, news[j]? = some u → W.cell? ⟨g, j, none⟩ = some u) : ∀ ad', some (⟨g, 0, none⟩ : Addr) = some ad' → ∀ j u, news[j]? = some u → W.cell? (ad'.add j) = some u := by
  intro ad' e j u hu
  obtain rfl : (⟨g, 0, none⟩ : Addr) = ad' := by simpa using e
  rw [show (⟨g, 0, none⟩ : Addr).add j = ⟨g, j, none⟩ by unfold Addr.add; split <;> simp_all]
  exact h j u hu
/-- 'append(xs, ys...)' in a region that draws its order; where the row lies. -/
theorem step_append_rows_at {P : Program} {W : World} {o : Oper} {a : Act} {K : Act → World → Prop} {Q : Exit → Act → World → Prop} (s x : Operand) (t : TypeId)
    (ho : o.op = .call { callee := .builtin .append, args := #[s, x], argTypes := #[t, t] })
    (B : Nat) (e : TypeId) (z : Value) (size bytes : Nat) (ht : P.underlying t = some (.slice e)) (hinfo : (P.info? e).map (fun i => (i.zero, i.size, i.bytes)) = some (some z, size, bytes))
    (hzs : z.cells.size = size) (hsz : 0 < size)
    (v : Value) (n : Nat) (xs news : List Value) (hs : a.eval s = v) (hown : Own W B e size v n xs) (ad : Option Addr) (m c : Nat) (hx : a.eval x = .slice ad m c)
    (hnil : ad = none → m = 0 ∧ c = 0)
    (hl : news.length = m * size) (hnews : ∀ ad', ad = some ad' → ∀ j u, news[j]? = some u → W.cell? (ad'.add j) = some u) (h1 : ∀ u ∈ news, u.oneCell' = true)
    (hn : n + m ≤ 4000000) (hby : bytes ≤ 100000) (hbase : B ≤ W.heap.size)
    (h : ∀ v' w', Own w' B e size v' (n + m) (xs ++ news) → W.grownBy w' v.ownBlock → (v'.ownBlock = v.ownBlock ∨ v'.ownBlock = some W.heap.size) → K (a.put o.dst v') w') :
    Oper.wp P o a W K Q := by
  obtain ⟨i0, hi, hz0, hz1, hz2⟩ := info_parts hinfo
  cases ad with
  | none =>
    obtain ⟨rfl, rfl⟩ := hnil rfl
    have hnn : news = [] := List.eq_nil_of_length_eq_zero (by omega)
    have hrun := run_append_owned_none (P := P) (w := W) B t o.type e i0 size ht hi v n xs hown.1
    unfold Oper.wp
    simp [execOp, ho, resolve, invoke, builtin, hs, hx, hrun, Result.andThen]
    refine h v W ?_ (World.grownBy.refl W _) (.inl rfl)
    rw [hnn, List.append_nil, Nat.add_zero]; exact hown
  | some ad =>
    have hbytes : (n + m) * bytes ≤ 140737488355328 := by
      calc (n + m) * bytes ≤ 4000000 * 100000 := Nat.mul_le_mul hn hby
        _ ≤ 140737488355328 := by decide
    obtain ⟨v', w', hr, h2, h3, h4, h5⟩ := run_append_own_at (P := P) W B t o.type e i0 z size bytes ht hi hz0 hz1 hz2 hzs hsz v n xs hown.1 ad m c news hl (hnews ad rfl) h1 (by unfold maxLen; omega) hbytes hbase
    unfold Oper.wp execOp
    simp only [ho, resolve, invoke, builtin, Sem.run_bind, Sem.run_pure, Result.andThen_ok, List.map_toArray, List.map_cons, List.map_nil, hs, hx, hr]
    exact h v' w' ⟨h2, fun e => hown.2 (h4.1 e).1⟩ h3 h5
/-- What the rows of the last region hold, by what is done: a literal, what is appended to it, the literal of one effect, and both. -/
def RgRows (w0 : World) (eX : TypeId) (len : Nat) (xs news : List Value) (L2 : List Eff) (l : Nat → Bool) (f : Nat → Value) (w : World) : Prop :=
  Below w0.heap.size w0 w ∧
  (l 4 = true → l 6 = false → ∃ g, f 31 = .slice (some ⟨g, 0, none⟩) 0 0 ∧ Own w w0.heap.size eX 3 (.slice (some ⟨g, 0, none⟩) 0 0) 0 [] ∧ (l 8 = true → l 9 = false → f 35 ≠ .slice (some ⟨g, 0, none⟩) 1 1)) ∧
  (l 6 = true → l 9 = false → ∃ g d, f 33 = .slice (some ⟨g, 0, none⟩) len d ∧ Own w w0.heap.size eX 3 (.slice (some ⟨g, 0, none⟩) len d) len xs ∧ (l 8 = true → f 35 ≠ .slice (some ⟨g, 0, none⟩) 1 1)) ∧
  (l 8 = true → l 9 = false → ∃ h, f 35 = .slice (some ⟨h, 0, none⟩) 1 1 ∧ h < w.heap.size ∧ ∀ j u, news[j]? = some u → w.cell? ⟨h, j, none⟩ = some u) ∧
  (l 9 = true → l 10 = false → ∃ a c, f 36 = .slice a (len + 1) c ∧ RowFs w a (len + 1) L2) ∧ (l 9 = true → l 6 = true)
theorem RgRows.nothing (w0 : World) (eX : TypeId) (len : Nat) (xs news : List Value) (L2 : List Eff) (f : Nat → Value) : RgRows w0 eX len xs news L2 (fun _ => false) f w0.drew :=
  ⟨(Below.refl _ _).drew, fun h _ => (by cases h), fun h _ => (by cases h), fun h _ => (by cases h), fun h _ => (by cases h), fun h => (by cases h)⟩
section
variable {w0 : World} {eX : TypeId} {len : Nat} {xs news : List Value} {L2 : List Eff} {l : Nat → Bool} {f : Nat → Value} {w : World}
theorem RgRows.still (hR : RgRows w0 eX len xs news L2 l f w) (i d : Nat) (v : Value) {w' : World} (hb : Below w.heap.size w w') (hi : i ≠ 4 ∧ i ≠ 6 ∧ i ≠ 8 ∧ i ≠ 9) (hd : d ≠ 31 ∧ d ≠ 33 ∧ d ≠ 35 ∧ d ≠ 36) :
    RgRows w0 eX len xs news L2 (fun j => j == i || l j) (fun s => if some d = some s then v else f s) w' := by
  obtain ⟨h0, h1, h2, h3, h4, h5⟩ := hR
  obtain ⟨i4, i6, i8, i9⟩ := hi
  obtain ⟨d1, d3, d5, d6⟩ := hd
  have e4 : ((4 : Nat) == i) = false := by simp; omega
  have e6 : ((6 : Nat) == i) = false := by simp; omega
  have e8 : ((8 : Nat) == i) = false := by simp; omega
  have e9 : ((9 : Nat) == i) = false := by simp; omega
  have g1 : ¬ (some d = some 31) := by simpa using d1
  have g3 : ¬ (some d = some 33) := by simpa using d3
  have g5 : ¬ (some d = some 35) := by simpa using d5
  have g6 : ¬ (some d = some 36) := by simpa using d6
  unfold RgRows
  simp only [e4, e6, e8, e9, Bool.false_or, if_neg g1, if_neg g3, if_neg g5, if_neg g6]
  refine ⟨h0.trans (hb.mono h0.size), fun a b => ?_, fun a b => ?_, fun a b => ?_, fun a b => ?_, h5⟩
  · obtain ⟨g, q1, q2, q3⟩ := h1 a b; exact ⟨g, q1, q2.below hb, q3⟩
  · obtain ⟨g, c, q1, q2, q3⟩ := h2 a b; exact ⟨g, c, q1, q2.below hb, q3⟩
  · obtain ⟨h, q1, q2, q3⟩ := h3 a b
    exact ⟨h, q1, Nat.lt_of_lt_of_le q2 hb.size, fun j u hu => (hb.cell (p := ⟨h, j, none⟩) q2).trans (q3 j u hu)⟩
  · obtain ⟨p, c, q1, q2⟩ := h4 a (by
      cases hl : l 10 with
      | false => rfl
      | true => rw [hl] at b; simp at b)
    exact ⟨p, c, q1, q2.below hb⟩
theorem RgRows.lit (hR : RgRows w0 eX len xs news L2 l f w) :
    RgRows w0 eX len xs news L2 (fun j => j == 4 || l j) (fun s => if some 31 = some s then .slice (some ⟨w.heap.size, 0, none⟩) 0 0 else f s) (w.alloc (.cells #[] eX)) := by
  obtain ⟨h0, h1, h2, h3, h4, h5⟩ := hR
  have hb := (Below.refl w.heap.size w).alloc (Nat.le_refl _) (.cells #[] eX)
  refine ⟨h0.trans (hb.mono h0.size), fun _ b => ⟨w.heap.size, by simp, own_lit eX 3 #[] 0 h0.size (by simp) rfl, fun c d => ?_⟩, fun a b => ?_, fun a b => ?_, fun a b => ?_, by simpa using h5⟩
  · obtain ⟨h, q1, q2, -⟩ := h3 (by simpa using c) (by simpa using d)
    simp [q1] <;> omega
  · obtain ⟨g, c, q1, q2, q3⟩ := h2 (by simpa using a) (by simpa using b)
    exact ⟨g, c, by simpa using q1, q2.below hb, fun e => by simpa using q3 (by simpa using e)⟩
  · obtain ⟨h, q1, q2, q3⟩ := h3 (by simpa using a) (by simpa using b)
    exact ⟨h, by simpa using q1, Nat.lt_of_lt_of_le q2 hb.size, fun j u hu => (hb.cell (p := ⟨h, j, none⟩) q2).trans (q3 j u hu)⟩
  · obtain ⟨p, c, q1, q2⟩ := h4 (by simpa using a) (by simpa using b)
    exact ⟨p, c, by simpa using q1, q2.below hb⟩
theorem RgRows.one (hR : RgRows w0 eX len xs news L2 l f w) (p q r : Value) (hnews : news = [p, q, r]) :
    RgRows w0 eX len xs news L2 (fun j => j == 8 || l j) (fun s => if some 35 = some s then .slice (some ⟨w.heap.size, 0, none⟩) 1 1 else f s) (w.alloc (.cells #[p, q, r] eX)) := by
  obtain ⟨h0, h1, h2, h3, h4, h5⟩ := hR
  have hb := (Below.refl w.heap.size w).alloc (Nat.le_refl _) (.cells #[p, q, r] eX)
  have hlt : w.heap.size < (w.alloc (.cells #[p, q, r] eX)).heap.size := by simp
  refine ⟨h0.trans (hb.mono h0.size), fun a b => ?_, fun a b => ?_, fun a b => ⟨w.heap.size, by simp, hlt, by subst hnews; exact lit3_cell w eX⟩, fun a b => ?_, by simpa using h5⟩
  · obtain ⟨g, q1, q2, -⟩ := h1 (by simpa using a) (by simpa using b)
    have hg := (q2.1.lt g rfl).2
    exact ⟨g, by simpa using q1, q2.below hb, fun _ _ => by simp <;> omega⟩
  · obtain ⟨g, c, q1, q2, -⟩ := h2 (by simpa using a) (by simpa using b)
    have hg := (q2.1.lt g rfl).2
    exact ⟨g, c, by simpa using q1, q2.below hb, fun _ => by simp <;> omega⟩
  · obtain ⟨p, c, q1, q2⟩ := h4 (by simpa using a) (by simpa using b)
    exact ⟨p, c, by simpa using q1, q2.below hb⟩
theorem RgRows.app1 (hR : RgRows w0 eX len xs news L2 l f w) {g : Nat} (hne : l 8 = true → l 9 = false → f 35 ≠ .slice (some ⟨g, 0, none⟩) 1 1) {v' : Value} {w' : World} (ho : Own w' w0.heap.size eX 3 v' len xs)
    (hg : w.grownBy w' (some g)) (hN : w0.heap.size ≤ g) (hat : v'.ownBlock = some g ∨ v'.ownBlock = some w.heap.size) (h6 : l 6 = false) :
    RgRows w0 eX len xs news L2 (fun j => j == 6 || l j) (fun s => if some 33 = some s then v' else f s) w' := by
  obtain ⟨h0, h1, h2, h3, h4, h5⟩ := hR
  have h9 : l 9 = false := by
    cases hl : l 9 with
    | false => rfl
    | true => rw [h5 hl] at h6; cases h6
  obtain ⟨g7, d7, rfl, -, -⟩ := ho.slice
  refine ⟨h0.grown hg h0.size (fun k hk => by cases hk; exact hN), fun a b => ?_, fun a b => ⟨g7, d7, by simp, ho, fun c => ?_⟩, fun a b => ?_, fun a b => ?_, fun a => by simp⟩
  · simp at b
  · have c' : l 8 = true := by simpa using c
    have hn := hne c' h9
    obtain ⟨h, q1, q2, -⟩ := h3 c' h9
    rw [q1] at hn
    have hn' : h ≠ g := fun e => hn (by rw [e])
    simp [q1]
    rcases hat with e | e
    · simp [Value.ownBlock] at e; omega
    · simp [Value.ownBlock] at e; omega
  · have c' : l 8 = true := by simpa using a
    have hn := hne c' h9
    obtain ⟨h, q1, q2, q3⟩ := h3 c' h9
    rw [q1] at hn
    have hn' : h ≠ g := fun e => hn (by rw [e])
    exact ⟨h, by simpa using q1, Nat.lt_of_lt_of_le q2 hg.size, fun j u hu => hg.cell (q3 j u hu) (by simpa using hn')⟩
  · have : l 9 = true := by simpa using a
    rw [h9] at this; cases this
theorem RgRows.app2 (hR : RgRows w0 eX len xs news L2 l f w) {w' : World} (hb : Below w0.heap.size w0 w') (h6 : l 6 = true) {a : Option Addr} {c : Nat} {v : Value} (he : v = .slice a (len + 1) c) (hr : RowFs w' a (len + 1) L2) :
    RgRows w0 eX len xs news L2 (fun j => j == 9 || l j) (fun s => if some 36 = some s then v else f s) w' := by
  refine ⟨hb, fun x y => ?_, fun x y => ?_, fun x y => ?_, fun x y => ⟨a, c, by simpa using he, hr⟩, fun x => by simpa using h6⟩
  · have : l 6 = false := by simpa using y
    rw [h6] at this; cases this
  · simp at y
  · simp at y
end
set_option maxRecDepth 100000 in
set_option maxHeartbeats 4000000 in
theorem lawEffectsSum (a : Option Addr) (len cap : Nat) (z : List Int) (w : World) (h : RowB w a len z) (hc : a = none → cap = 0) (hlc : len ≤ cap) :
    Calls Try.prog 5 #[.slice a len cap] w (LawTrue w) := by
  by_cases hs : len ≤ 1048576
  · have hs' : ¬ (1048576 : Int) < (len : Int) := by omega
    go_enter Try.func5, Try.ntmps5
    go_wp2_with fail
    refine (drawEffectsSum_any a len cap z w h hlc).mono ?_; rintro e w1 ⟨av, cv, L, rfl, hr1, hz1, hlc1, hl11, hel, hb1⟩
    clear h hs hs' hc hlc
    have HSM : Hid (∀ x ∈ L, x.rds.length + x.wrs.length ≤ 1500000) := Lib.hid (fun x hx => by have := hel x hx; omega)
    have HZ := Lib.hid hz1
    have HEL := Lib.hid hel
    clear hz1 hel
    obtain ⟨n, hn⟩ : ∃ n, n = effsSumM L := ⟨_, rfl⟩
    have HN := Lib.hid hn
    clear hn
    go_wp2_with fail
    refine (effectsSum_impl _ _ cv L _ hr1 HSM.out (by omega)).mono ?_; rintro e w2 ⟨rfl, hb2'⟩
    rw [← HN.out]
    have hr2 := hr1.below hb2'
    have hb2 := hb1.trans (hb2'.mono hb1.size)
    clear hr1 hb1 hb2'
    go_wp2_with fail
    refine (effectsSum_spec _ _ cv L _ hr2 HSM.out (by omega)).mono ?_; rintro e w3 ⟨rfl, hb3'⟩
    rw [← HN.out]
    have hr3 := hr2.below hb3'
    have hb3 := hb2.trans (hb3'.mono hb2.size)
    clear hr2 hb2 hb3'
    have hnn : (n != n) = false := by simp
    have hcs : n = -1 ∨ (0 ≤ n ∧ n ≤ 1000002) := by rw [HN.out]; exact effsSum_cases L
    by_cases h0 : n = -1
    · subst h0
      clear hcs
      go_wp2_with fail
      refine (alive_any _).mono ?_; rintro e w4 ⟨rfl, hb4⟩
      go_wp2
      go_ret
      exact ⟨rfl, hb3.trans (hb4.mono hb3.size)⟩
    · obtain ⟨p0, p1⟩ : 0 ≤ n ∧ n ≤ 1000002 := by omega
      have hq1 : decide (n < 0) = false := by simp; omega
      have hq2 : ¬ n < 0 := by omega
      clear hcs h0
      have hbl := (Below.refl w3.heap.size w3).alloc (Nat.le_refl _) (.cells #[] 70)
      have hre := rowE_empty (w3.alloc (.cells #[] 70)) (some ⟨w3.heap.size, 0, none⟩)
      have hr4 := hr3.below hbl
      have hb4 := hb3.trans (hbl.mono hb3.size)
      clear hr3 hb3 hbl
      go_wp2_with fail
      refine (runAction_impl _ _ 0 [] 1 3 0 4 _ hre).mono ?_; rintro e w5 ⟨v5, rfl, hF5, hb5'⟩
      have hXr := runM_rlen [] ⟨1, 3, 0, 4⟩
      have hXw := runM_wlen [] ⟨1, 3, 0, 4⟩
      obtain ⟨X, hX⟩ : ∃ X, X = runM [] ⟨1, 3, 0, 4⟩ := ⟨_, rfl⟩
      rw [← hX] at hF5 hXr hXw
      clear hX hre
      obtain ⟨ax, cx, bx, dx, rfl, hf5, o1, o2, -, zx1, zx2⟩ := hF5.rows (by omega) (by omega)
      have hsl1 := sliE_of_own (ents_own o1 hf5.1.2.2.2 (by omega))
      have hsl2 := sliE_of_own (ents_own o2 hf5.2.2.2.2 (by omega))
      have HZ1 := Lib.hid zx1
      have HZ2 := Lib.hid zx2
      have hr5 := hr4.below hb5'
      have hb5 := hb4.trans (hb5'.mono hb4.size)
      have hN6 := eAt_new w5 39 X.done (.slice ax X.rds.length cx) (.slice bx X.wrs.length dx)
      have hbl := (Below.refl w5.heap.size w5).alloc (Nat.le_refl _) (.cells #[.bool X.done, .slice ax X.rds.length cx, .slice bx X.wrs.length dx] 39)
      have hf6 := hf5.below hbl
      have hr6 := hr5.below hbl
      have hsl3 := hsl1.below hbl
      have hsl4 := hsl2.below hbl
      clear o1 o2 hsl1 hsl2
      have hb6 := hb5.trans (hbl.mono hb5.size)
      clear hr4 hb4 hb5' hF5 hf5 hr5 hb5 hbl zx1 zx2
      go_upto_region 10 with (fail)
      obtain ⟨w6, hw6⟩ : ∃ w6, w6 = w5.alloc (.cells #[.bool X.done, .slice ax X.rds.length cx, .slice bx X.wrs.length dx] 39) := ⟨_, rfl⟩
      rw [← hw6] at hN6 hf6 hr6 hb6 hsl3 hsl4 ⊢
      clear hw6
      obtain ⟨E, hEe⟩ : ∃ E, E = w5.heap.size := ⟨_, rfl⟩
      rw [← hEe] at hN6 ⊢
      clear hEe
      by_cases h10 : L.length = 10
      · have h10' : ((L.length : Int) == 10) = true := by rw [h10]; rfl
        have h11 : (L.length : Int) = 10 := by omega
        clear hr6 hf6 hN6 h10
        go_quiet (fail)
        go_wp2
        go_ret
        exact ⟨rfl, by first | exact hb6 | exact hb6.drew | exact below_drewN' hb6 _⟩
      · have h10' : ((L.length : Int) == 10) = false := by simp; omega
        obtain ⟨f0, f1, f2⟩ := hN6.1
        have hEl : E < w6.heap.size := hN6.2.2
        obtain ⟨xs, hx, hl, hn, ho⟩ := rawF_of_row hr6
        have hxe : RawF w6 [Value.bool X.done, .slice ax X.rds.length cx, .slice bx X.wrs.length dx] [X] := ⟨rfl, fun i hi => by
          obtain rfl : i = 0 := by simpa using hi
          exact ⟨rfl, ⟨_, rfl, hsl3⟩, _, rfl, hsl4⟩⟩
        have HNL : Hid (∀ W, Below w6.heap.size w6 W → ∀ ad, av = some ad → ∀ j u, xs[j]? = some u → W.cell? (ad.add j) = some u) := Lib.hid (fun W hb ad e j u hu => (hb.cell (p := ad.add j) (World.block_lt_of_cell? _ _ (hn ad e j u hu))).trans (hn ad e j u hu))
        have HE1 : Hid (av = none → L.length = 0 ∧ cv = 0) := Lib.hid (fun e => ⟨by
          rcases Nat.eq_zero_or_pos L.length with h | h
          · exact h
          · obtain ⟨b', o', he, -⟩ := hr6.2.2 h; (rw [e] at he; cases he), HZ.out e⟩)
        have HRX := Lib.hid hx
        have HRE := Lib.hid hxe
        have HF6 := Lib.hid hf6
        have HB6 := Lib.hid hb6
        have HSM2 : Hid (∀ x ∈ L ++ [X], x.rds.length + x.wrs.length ≤ 1500000) := Lib.hid (fun x hx => by
          rcases List.mem_append.1 hx with hx | hx
          · exact HSM.out x hx
          · simp at hx; subst hx; omega)
        have HSU : Hid (effsSumM (L ++ [X]) = sumMoreM n (effSumM X)) := Lib.hid (by rw [HN.out]; exact effsSum_more X (by rw [← HN.out]; exact p0) h10)
        obtain ⟨q, hq⟩ : ∃ q, q = effSumM X := ⟨_, rfl⟩
        obtain ⟨r, hrr⟩ : ∃ r, r = sumMoreM n q := ⟨_, rfl⟩
        have HQ : Hid (effSumM X = q) := Lib.hid hq.symm
        have HR : Hid (sumMoreM n q = r) := Lib.hid hrr.symm
        rw [← hq, ← hrr] at HSU
        clear hq hrr
        have hone : ∀ u ∈ ([Value.bool X.done, .slice ax X.rds.length cx, .slice bx X.wrs.length dx] : List Value), u.oneCell' = true := by intro u hu; simp at hu; rcases hu with rfl | rfl | rfl <;> rfl
        clear hx hxe hn hf6 hb6 hr6 hsl3 hsl4 hN6
        refine wp_region_joint (by kernel_rfl) (fun l f w => Vals [(0, 27, (.slice av L.length cv)), (1, 28, (.int .i64 L.length)), (2, 29, (.bool false)), (3, 30, (.bool false)), (5, 32, (.slice av L.length cv)), (7, 34, (.agg #[.bool X.done, .slice ax X.rds.length cx, .slice bx X.wrs.length dx])), (10, 37, (.int .i64 r)), (11, 38, (.int .i64 n)), (12, 39, (.agg #[.bool X.done, .slice ax X.rds.length cx, .slice bx X.wrs.length dx])), (13, 40, (.int .i64 q)), (14, 41, (.int .i64 r)), (15, 42, (.bool true)), (16, 43, (.bool true)), (17, 2, (.bool true))] l f ∧ RgRows w6 39 L.length xs [Value.bool X.done, .slice ax X.rds.length cx, .slice bx X.wrs.length dx] (L ++ [X]) l f w) [27, 28, 29, 30, 31, 32, 33, 34, 35, 36, 37, 38, 39, 40, 41, 42, 43, 2] (by kernel_rfl) (by kernel_rfl) (by kernel_rfl) (fun f => ⟨Vals.nothing _ f, RgRows.nothing _ _ _ _ _ _ f⟩) ?_ ?_
        · intro i hi
          rcases (by have : i < 18 := hi; omega : i = 0 ∨ i = 1 ∨ i = 2 ∨ i = 3 ∨ i = 4 ∨ i = 5 ∨ i = 6 ∨ i = 7 ∨ i = 8 ∨ i = 9 ∨ i = 10 ∨ i = 11 ∨ i = 12 ∨ i = 13 ∨ i = 14 ∨ i = 15 ∨ i = 16 ∨ i = 17) with rfl | rfl | rfl | rfl | rfl | rfl | rfl | rfl | rfl | rfl | rfl | rfl | rfl | rfl | rfl | rfl | rfl | rfl
          · clear hi; intro o ho l f w' hJ hli ha K hK
            obtain ⟨hv, hr⟩ := hJ
            obtain rfl := Option.some.inj ho
            clear ho
            simp only [mixF, List.contains_cons, List.contains_nil] at hK ⊢
            go_simp
            have := hK (.slice av L.length cv) w' ⟨hv.step 0 27 _ (by simp), hr.still 0 27 _ (Below.refl _ _) (by omega) (by omega)⟩
            simpa [Act.put] using this
          · clear hi; intro o ho l f w' hJ hli ha K hK
            obtain ⟨hv, hr⟩ := hJ
            obtain rfl := Option.some.inj ho
            clear ho
            simp only [mixF, List.contains_cons, List.contains_nil] at hK ⊢
            have h27 : f 27 = (.slice av L.length cv) := hv (0, 27, (.slice av L.length cv)) (by simp) (ha 0 (by simp [aftersOf, Region.binds]))
            go_simp
            have := hK (.int .i64 L.length) w' ⟨hv.step 1 28 _ (by simp), hr.still 1 28 _ (Below.refl _ _) (by omega) (by omega)⟩
            simpa [Act.put, h27] using this
          · clear hi; intro o ho l f w' hJ hli ha K hK
            obtain ⟨hv, hr⟩ := hJ
            obtain rfl := Option.some.inj ho
            clear ho
            simp only [mixF, List.contains_cons, List.contains_nil] at hK ⊢
            have h28 : f 28 = (.int .i64 L.length) := hv (1, 28, (.int .i64 L.length)) (by simp) (ha 1 (by simp [aftersOf, Region.binds]))
            go_simp
            have := hK (.bool false) w' ⟨hv.step 2 29 _ (by simp), hr.still 2 29 _ (Below.refl _ _) (by omega) (by omega)⟩
            simpa [Act.put, h28] using this
          · clear hi; intro o ho l f w' hJ hli ha K hK
            obtain ⟨hv, hr⟩ := hJ
            obtain rfl := Option.some.inj ho
            clear ho
            simp only [mixF, List.contains_cons, List.contains_nil] at hK ⊢
            have h29 : f 29 = (.bool false) := hv (2, 29, (.bool false)) (by simp) (ha 2 (by simp [aftersOf, Region.binds]))
            go_simp
            have := hK (.bool false) w' ⟨hv.step 3 30 _ (by simp), hr.still 3 30 _ (Below.refl _ _) (by omega) (by omega)⟩
            simpa [Act.put, h29] using this
          · clear hi; intro o ho l f w' hJ hli ha K hK
            obtain ⟨hv, hr⟩ := hJ
            obtain rfl := Option.some.inj ho
            clear ho
            simp only [mixF, List.contains_cons, List.contains_nil] at hK ⊢
            have h30 : f 30 = (.bool false) := hv (3, 30, (.bool false)) (by simp) (ha 3 (by simp [aftersOf, Region.binds]))
            rw [if_pos (by simp [Region.wanted, yielded, h30])]
            go_simp
            have := hK _ _ ⟨hv.step 4 31 (.slice (some ⟨w'.heap.size, 0, none⟩) 0 0) (by simp), hr.lit⟩
            simpa [Act.put, h30] using this
          · clear hi; intro o ho l f w' hJ hli ha K hK
            obtain ⟨hv, hr⟩ := hJ
            obtain rfl := Option.some.inj ho
            clear ho
            simp only [mixF, List.contains_cons, List.contains_nil] at hK ⊢
            have h30 : f 30 = (.bool false) := hv (3, 30, (.bool false)) (by simp) (ha 3 (by simp [aftersOf, Region.binds]))
            rw [if_pos (by simp [Region.wanted, yielded, h30])]
            go_simp
            have := hK (.slice av L.length cv) w' ⟨hv.step 5 32 _ (by simp), hr.still 5 32 _ (Below.refl _ _) (by omega) (by omega)⟩
            simpa [Act.put, h30] using this
          · clear hi; intro o ho l f w' hJ hli ha K hK
            obtain ⟨hv, hr⟩ := hJ
            obtain rfl := Option.some.inj ho
            clear ho
            simp only [mixF, List.contains_cons, List.contains_nil] at hK ⊢
            have h32 : f 32 = (.slice av L.length cv) := hv (5, 32, (.slice av L.length cv)) (by simp) (ha 5 (by simp [aftersOf, Region.binds]))
            have h30 : f 30 = (.bool false) := hv (3, 30, (.bool false)) (by simp) (ha 3 (by simp [aftersOf, Region.binds]))
            rw [if_pos (by simp [Region.wanted, yielded, h30])]
            have e4 : l 4 = true := ha 4 (by simp [aftersOf, Region.binds])
            obtain ⟨g, h31, hog, hne⟩ := hr.2.1 e4 hli
            refine step_append_rows_at (.tmp 31) (.tmp 32) 27 rfl w6.heap.size 39 (.agg #[.bool false, .slice none 0 0, .slice none 0 0]) 3 56 Try.underlying27 infoEffS rfl (by decide) (.slice (some ⟨g, 0, none⟩) 0 0) 0 [] xs (by simp [Act.eval, h31]) hog av L.length cv (by simp [Act.eval, h32]) HE1.out hl (fun ad e j u hu => HNL.out _ hr.1 ad e j u hu) ho (by omega) (by decide) hr.1.size ?_
            intro v7 w7 ho7 hg7 hp7
            rw [Nat.zero_add, List.nil_append] at ho7
            have := hK v7 w7 ⟨hv.step 6 33 _ (by simp), hr.app1 hne ho7 hg7 (hog.1.lt g rfl).1 hp7 hli⟩
            simpa [Act.put] using this
          · clear hi; intro o ho l f w' hJ hli ha K hK
            obtain ⟨hv, hr⟩ := hJ
            obtain rfl := Option.some.inj ho
            clear ho
            simp only [mixF, List.contains_cons, List.contains_nil] at hK ⊢
            have h30 : f 30 = (.bool false) := hv (3, 30, (.bool false)) (by simp) (ha 3 (by simp [aftersOf, Region.binds]))
            rw [if_pos (by simp [Region.wanted, yielded, h30])]
            have k0 := below_cl hr.1 hEl f0
            have k1 := below_cl hr.1 hEl f1
            have k2 := below_cl hr.1 hEl f2
            go_simp
            have := hK (.agg #[.bool X.done, .slice ax X.rds.length cx, .slice bx X.wrs.length dx]) w' ⟨hv.step 7 34 _ (by simp), hr.still 7 34 _ (Below.refl _ _) (by omega) (by omega)⟩
            simpa [Act.put, h30] using this
          · clear hi; intro o ho l f w' hJ hli ha K hK
            obtain ⟨hv, hr⟩ := hJ
            obtain rfl := Option.some.inj ho
            clear ho
            simp only [mixF, List.contains_cons, List.contains_nil] at hK ⊢
            have h34 : f 34 = (.agg #[.bool X.done, .slice ax X.rds.length cx, .slice bx X.wrs.length dx]) := hv (7, 34, (.agg #[.bool X.done, .slice ax X.rds.length cx, .slice bx X.wrs.length dx])) (by simp) (ha 7 (by simp [aftersOf, Region.binds]))
            have h30 : f 30 = (.bool false) := hv (3, 30, (.bool false)) (by simp) (ha 3 (by simp [aftersOf, Region.binds]))
            rw [if_pos (by simp [Region.wanted, yielded, h30])]
            go_simp
            have := hK _ _ ⟨hv.step 8 35 (.slice (some ⟨w'.heap.size, 0, none⟩) 1 1) (by simp), hr.one (.bool X.done) (.slice ax X.rds.length cx) (.slice bx X.wrs.length dx) rfl⟩
            simpa [Act.put, h34, h30] using this
          · clear hi; intro o ho l f w' hJ hli ha K hK
            obtain ⟨hv, hr⟩ := hJ
            obtain rfl := Option.some.inj ho
            clear ho
            simp only [mixF, List.contains_cons, List.contains_nil] at hK ⊢
            have h30 : f 30 = (.bool false) := hv (3, 30, (.bool false)) (by simp) (ha 3 (by simp [aftersOf, Region.binds]))
            rw [if_pos (by simp [Region.wanted, yielded, h30])]
            have e6 : l 6 = true := ha 6 (by simp [aftersOf, Region.binds])
            have e8 : l 8 = true := ha 8 (by simp [aftersOf, Region.binds])
            obtain ⟨g, d, h33, hog, hne⟩ := hr.2.2.1 e6 hli
            obtain ⟨h, h35, hh, hce⟩ := hr.2.2.2.1 e8 hli
            refine step_append_rows_at (.tmp 33) (.tmp 35) 27 rfl w6.heap.size 39 (.agg #[.bool false, .slice none 0 0, .slice none 0 0]) 3 56 Try.underlying27 infoEffS rfl (by decide) (.slice (some ⟨g, 0, none⟩) L.length d) L.length xs [Value.bool X.done, .slice ax X.rds.length cx, .slice bx X.wrs.length dx] (by simp [Act.eval, h33]) hog (some ⟨h, 0, none⟩) 1 1 (by simp [Act.eval, h35]) (fun e => by cases e) rfl (news_of hce) hone (by omega) (by decide) hr.1.size ?_
            intro v8 w8 ho8 hg8 hp8
            have HB8 : Below w6.heap.size w6 w8 := Below.grown hr.1 hg8 hr.1.size (fun q hq => (hog.1.lt q hq).1)
            have hraw := (HRX.out.below HB8).append (HRE.out.below HB8)
            obtain ⟨a8, c8, e8, hr8, -, -⟩ := rowFs_of_raw (L := L ++ [X]) (by rw [List.length_append]; exact ho8.1) hraw
            rw [show (L ++ [X]).length = L.length + 1 by simp] at e8 hr8
            have := hK v8 w8 ⟨hv.step 9 36 _ (by simp), hr.app2 HB8 e6 e8 hr8⟩
            simpa [Act.put] using this
          · clear hi; intro o ho l f w' hJ hli ha K hK
            obtain ⟨hv, hr⟩ := hJ
            obtain rfl := Option.some.inj ho
            clear ho
            simp only [mixF, List.contains_cons, List.contains_nil] at hK ⊢
            have h30 : f 30 = (.bool false) := hv (3, 30, (.bool false)) (by simp) (ha 3 (by simp [aftersOf, Region.binds]))
            rw [if_pos (by simp [Region.wanted, yielded, h30])]
            have e9 : l 9 = true := ha 9 (by simp [aftersOf, Region.binds])
            obtain ⟨a8, c8, h36, hr8⟩ := hr.2.2.2.2.1 e9 hli
            go_simp
            refine (effectsSum_impl _ _ c8 (L ++ [X]) w' hr8 HSM2.out (by omega)).mono ?_
            rintro e w9 ⟨rfl, hb9⟩
            rw [HSU.out]
            have := hK (.int .i64 r) w9 ⟨hv.step 10 37 _ (by simp), hr.still 10 37 _ hb9 (by omega) (by omega)⟩
            simpa [Act.put, h36, h30] using this
          · clear hi; intro o ho l f w' hJ hli ha K hK
            obtain ⟨hv, hr⟩ := hJ
            obtain rfl := Option.some.inj ho
            clear ho
            simp only [mixF, List.contains_cons, List.contains_nil] at hK ⊢
            have h30 : f 30 = (.bool false) := hv (3, 30, (.bool false)) (by simp) (ha 3 (by simp [aftersOf, Region.binds]))
            rw [if_pos (by simp [Region.wanted, yielded, h30])]
            go_simp
            have := hK (.int .i64 n) w' ⟨hv.step 11 38 _ (by simp), hr.still 11 38 _ (Below.refl _ _) (by omega) (by omega)⟩
            simpa [Act.put, h30] using this
          · clear hi; intro o ho l f w' hJ hli ha K hK
            obtain ⟨hv, hr⟩ := hJ
            obtain rfl := Option.some.inj ho
            clear ho
            simp only [mixF, List.contains_cons, List.contains_nil] at hK ⊢
            have h30 : f 30 = (.bool false) := hv (3, 30, (.bool false)) (by simp) (ha 3 (by simp [aftersOf, Region.binds]))
            rw [if_pos (by simp [Region.wanted, yielded, h30])]
            have k0 := below_cl hr.1 hEl f0
            have k1 := below_cl hr.1 hEl f1
            have k2 := below_cl hr.1 hEl f2
            go_simp
            have := hK (.agg #[.bool X.done, .slice ax X.rds.length cx, .slice bx X.wrs.length dx]) w' ⟨hv.step 12 39 _ (by simp), hr.still 12 39 _ (Below.refl _ _) (by omega) (by omega)⟩
            simpa [Act.put, h30] using this
          · clear hi; intro o ho l f w' hJ hli ha K hK
            obtain ⟨hv, hr⟩ := hJ
            obtain rfl := Option.some.inj ho
            clear ho
            simp only [mixF, List.contains_cons, List.contains_nil] at hK ⊢
            have h39 : f 39 = (.agg #[.bool X.done, .slice ax X.rds.length cx, .slice bx X.wrs.length dx]) := hv (12, 39, (.agg #[.bool X.done, .slice ax X.rds.length cx, .slice bx X.wrs.length dx])) (by simp) (ha 12 (by simp [aftersOf, Region.binds]))
            have h30 : f 30 = (.bool false) := hv (3, 30, (.bool false)) (by simp) (ha 3 (by simp [aftersOf, Region.binds]))
            rw [if_pos (by simp [Region.wanted, yielded, h30])]
            go_simp
            refine (effectSum_impl _ _ _ _ _ _ X w' (HF6.out.below hr.1) HZ1.out HZ2.out (by omega)).mono ?_
            rintro e w9 ⟨rfl, hb9⟩
            rw [HQ.out]
            have := hK (.int .i64 q) w9 ⟨hv.step 13 40 _ (by simp), hr.still 13 40 _ hb9 (by omega) (by omega)⟩
            simpa [Act.put, h39, h30] using this
          · clear hi; intro o ho l f w' hJ hli ha K hK
            obtain ⟨hv, hr⟩ := hJ
            obtain rfl := Option.some.inj ho
            clear ho
            simp only [mixF, List.contains_cons, List.contains_nil] at hK ⊢
            have h38 : f 38 = (.int .i64 n) := hv (11, 38, (.int .i64 n)) (by simp) (ha 11 (by simp [aftersOf, Region.binds]))
            have h40 : f 40 = (.int .i64 q) := hv (13, 40, (.int .i64 q)) (by simp) (ha 13 (by simp [aftersOf, Region.binds]))
            have h30 : f 30 = (.bool false) := hv (3, 30, (.bool false)) (by simp) (ha 3 (by simp [aftersOf, Region.binds]))
            rw [if_pos (by simp [Region.wanted, yielded, h30])]
            go_simp
            refine (sumMore_impl n q _).mono ?_
            rintro e w9 ⟨rfl, rfl⟩
            rw [HR.out]
            have := hK (.int .i64 r) _ ⟨hv.step 14 41 _ (by simp), hr.still 14 41 _ (Below.refl _ _) (by omega) (by omega)⟩
            simpa [Act.put, h38, h40, h30] using this
          · clear hi; intro o ho l f w' hJ hli ha K hK
            obtain ⟨hv, hr⟩ := hJ
            obtain rfl := Option.some.inj ho
            clear ho
            simp only [mixF, List.contains_cons, List.contains_nil] at hK ⊢
            have h37 : f 37 = (.int .i64 r) := hv (10, 37, (.int .i64 r)) (by simp) (ha 10 (by simp [aftersOf, Region.binds]))
            have h41 : f 41 = (.int .i64 r) := hv (14, 41, (.int .i64 r)) (by simp) (ha 14 (by simp [aftersOf, Region.binds]))
            have h30 : f 30 = (.bool false) := hv (3, 30, (.bool false)) (by simp) (ha 3 (by simp [aftersOf, Region.binds]))
            rw [if_pos (by simp [Region.wanted, yielded, h30])]
            go_simp
            have := hK (.bool true) w' ⟨hv.step 15 42 _ (by simp), hr.still 15 42 _ (Below.refl _ _) (by omega) (by omega)⟩
            simpa [Act.put, h37, h41, h30] using this
          · clear hi; intro o ho l f w' hJ hli ha K hK
            obtain ⟨hv, hr⟩ := hJ
            obtain rfl := Option.some.inj ho
            clear ho
            simp only [mixF, List.contains_cons, List.contains_nil] at hK ⊢
            have h30 : f 30 = (.bool false) := hv (3, 30, (.bool false)) (by simp) (ha 3 (by simp [aftersOf, Region.binds]))
            have h42 : f 42 = (.bool true) := hv (15, 42, (.bool true)) (by simp) (ha 15 (by simp [aftersOf, Region.binds]))
            go_simp
            have := hK (.bool true) w' ⟨hv.step 16 43 _ (by simp), hr.still 16 43 _ (Below.refl _ _) (by omega) (by omega)⟩
            simpa [Act.put, h30, h42] using this
          · clear hi; intro o ho l f w' hJ hli ha K hK
            obtain ⟨hv, hr⟩ := hJ
            obtain rfl := Option.some.inj ho
            clear ho
            simp only [mixF, List.contains_cons, List.contains_nil] at hK ⊢
            have h43 : f 43 = (.bool true) := hv (16, 43, (.bool true)) (by simp) (ha 16 (by simp [aftersOf, Region.binds]))
            go_simp
            have := hK (.bool true) w' ⟨hv.step 17 2 _ (by simp), hr.still 17 2 _ (Below.refl _ _) (by omega) (by omega)⟩
            simpa [Act.put, h43] using this
        · intro l f w' hall hJ
          obtain ⟨hv, hr⟩ := hJ
          have h2 : f 2 = .bool true := hv (17, 2, .bool true) (by simp) (hall 17 (by decide))
          have HBE := Lib.hid (HB6.out.trans (hr.1.mono HB6.out.size))
          clear hv hr hall
          simp only [mixF, List.contains_cons, List.contains_nil]
          go_simp
          go_wp2
          go_ret
          exact ⟨rfl, HBE.out⟩
  · have hs' : (1048576 : Int) < (len : Int) := by omega
    clear h hlc
    go_enter Try.func5, Try.ntmps5
    go_wp2
    go_ret
    exact ⟨rfl, Below.refl _ _⟩
end Go.Proofs.Ytpnahncmhldgdaa

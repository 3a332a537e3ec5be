/- Texts of ours that stand together: SpecVer, SpecVer2, RegionTurn, SpecVer4, SpecVer5 -/
import Derived.Test.YtaaffpolmecicaaGreatVerA
import Derived.Test.YtaaffpolmecicaaGreatSpecS
import Derived.Test.YtaaffpolmecicaaGreatConvVx
import Derived.Test.YtaaffpolmecicaaGreatSpecAct
import Derived.Deep.Cut
import Derived.BigQuiet
import Derived.Test.YtaaffpolmecicaaGreatRegJ
import Derived.Test.YtaaffpolmecicaaGreatCore
import Derived.Test.YtaaffpolmecicaaGreatSpecF
import Derived.Test.YtaaffpolmecicaaGreatEffA
import Derived.Test.YtaaffpolmecicaaGreatLay
import Derived.RegionTactic
import Derived.Deep.RegionLaw
/- The contracts of the model's versions: VersionsValid, l9Read, ReadVersion, l9Drop, DropVersions (its drawn region: gen9/specver.py). -/
namespace Go.Proofs.YtaaffpolmecicaaGreat
open Go.RowKit
set_option linter.unusedVariables false
set_option linter.unusedSimpArgs false
end Go.Proofs.YtaaffpolmecicaaGreat
/- The contracts of the model's l9Read, ReadVersion, l9Drop, DropVersions. -/
namespace Go.Proofs.YtaaffpolmecicaaGreat
open Go.RowKit
set_option linter.unusedVariables false
set_option linter.unusedSimpArgs false
/-- Two numbers; only new blocks have turned. -/
def IntsB2 (p : Int × Int) (w : World) (e : Ending) (w' : World) : Prop := e = .returned (.tuple #[.int .i64 p.1, .int .i64 p.2]) ∧ Below w.heap.size w w'
def IntsS2 (p : Int × Int) (w : World) (e : Ending) (w' : World) : Prop := e = .returned (.tuple #[.int .i64 p.1, .int .i64 p.2]) ∧ w = w'
end Go.Proofs.YtaaffpolmecicaaGreat
/- A region that draws its order, with ONE operation that writes in place what the region itself made ('append(append([]T{}, xs...), x)' beside loads and calls): a word for wp_region_light (gen9/lightt.py). No function of the program is named here. -/
namespace Go.Proofs.YtaaffpolmecicaaGreat
open Go.RowKit
set_option linter.unusedVariables false
/-- As Facts; ahead of the operation m R tells the rows, behind it S tells the slot d. -/
def Facts2 (w0 : World) (R : List (Nat × Nat × Sta)) (m d : Nat) (anc : List Nat) (S : Sta) (l : Nat → Bool) (f : Nat → Value) (w : World) : Prop :=
  Below w0.heap.size w0 w ∧ (l m = false → Facts w0 R l f w) ∧ (l m = true → S.own w (f d) ∧ ∀ j ∈ anc, l j = true)
theorem Facts2.nothing (w0 : World) (R : List (Nat × Nat × Sta)) (m d : Nat) (anc : List Nat) (S : Sta) (f : Nat → Value) : Facts2 w0 R m d anc S (fun _ => false) f w0.drew :=
  ⟨(Below.refl _ _).drew, fun _ => Facts.nothing _ _ _, fun h => by cases h⟩
theorem Facts2.now {w0 w : World} {R : List (Nat × Nat × Sta)} {m d : Nat} {anc : List Nat} {S : Sta} {l : Nat → Bool} {f : Nat → Value} (h : Facts2 w0 R m d anc S l f w) {i : Nat} (hi : i ∈ anc) (hli : l i = false) : Facts w0 R l f w := by
  refine h.2.1 ?_
  cases hm : l m with
  | false => rfl
  | true => rw [(h.2.2 hm).2 i hi] at hli; cases hli
theorem Facts2.step {w0 w w' : World} {R : List (Nat × Nat × Sta)} {m d : Nat} {anc : List Nat} {S : Sta} {l : Nat → Bool} {f : Nat → Value} (h : Facts2 w0 R m d anc S l f w) (i e : Nat) (v : Value) (hb : Below w.heap.size w w')
    (hR : (i ≠ m ∧ e ≠ d) ∧ ∀ t ∈ R, (t.1 = i → t.2.1 = e ∧ t.2.2.own w' v) ∧ (t.1 ≠ i → t.2.1 ≠ e)) : Facts2 w0 R m d anc S (fun j => j == i || l j) (fun s => if some e = some s then v else f s) w' := by
  obtain ⟨⟨h1, h2⟩, h3⟩ := hR
  refine ⟨h.1.trans (hb.mono h.1.size), fun hm => ?_, fun hm => ?_⟩
  · have : l m = false := by
      cases hl : l m with
      | false => rfl
      | true => simp [hl] at hm
    exact (h.2.1 this).step i e v hb h3
  · have hl : l m = true := by
      have e1 : (m == i) = false := by simp; exact fun e2 => h1 e2.symm
      simpa [e1] using hm
    obtain ⟨g1, g2⟩ := h.2.2 hl
    have hne : ¬ (some e = some d) := by simp; exact h2
    simp only [if_neg hne]
    exact ⟨S.keep g1 hb, fun j hj => by simp [g2 j hj]⟩
theorem Facts2.turn {w0 w' : World} {R : List (Nat × Nat × Sta)} {m d : Nat} {anc : List Nat} {S : Sta} {l : Nat → Bool} {f : Nat → Value} (v : Value) (ha : ∀ j ∈ anc, l j = true) (hb : Below w0.heap.size w0 w') (hs : S.own w' v) :
    Facts2 w0 R m d anc S (fun j => j == m || l j) (fun s => if some d = some s then v else f s) w' :=
  ⟨hb, fun hm => by simp at hm, fun _ => ⟨by simpa using hs, fun j hj => by simp [ha j hj]⟩⟩
/-- A new row without elements. -/
def Sta.none0 : Sta := ⟨fun w x => ∃ g, x = .slice (some ⟨g, 0, none⟩) 0 0, fun h _ => h⟩
/-- A row of n elements in the region's own memory. -/
def Sta.owned (B : Nat) (e : TypeId) (size n : Nat) (xs : List Value) : Sta :=
  ⟨fun w x => Own w B e size x n xs, fun h hb => h.below hb⟩
/-- A literal of one element. -/
def Sta.one (news : List Value) : Sta :=
  ⟨fun w x => ∃ g, x = .slice (some ⟨g, 0, none⟩) 1 1 ∧ ∀ j u, news[j]? = some u → w.cell? ⟨g, j, none⟩ = some u, fun ⟨g, e, h⟩ hb => ⟨g, e, fun j u hu => by
    have h1 := h j u hu
    exact (hb.cell (p := ⟨g, j, none⟩) (World.block_lt_of_cell? _ ⟨g, j, none⟩ h1)).trans h1⟩⟩
theorem sta_one_new (w : World) (T : TypeId) (news : List Value) : (Sta.one news).own (w.alloc (.cells news.toArray T)) (.slice (some ⟨w.heap.size, 0, none⟩) 1 1) := by
  refine ⟨_, rfl, fun j u hu => ?_⟩
  rw [cell_of_row (w.alloc (.cells news.toArray T)) w.heap.size j news.toArray T (0, 0) (heap_alloc_new w _)]
  rw [List.getElem?_toArray]; exact hu
/-- 'append([]T{}, ys...)' of a row that has been made without elements: a new row; nothing old turns. -/
theorem wp_append_none0 {P : Program} {W : World} {o : Oper} {a : Act} {K : Act → World → Prop} {Q : Exit → Act → World → Prop} (s x : Operand) (t : TypeId)
    (ho : o.op = .call { callee := .builtin .append, args := #[s, x], argTypes := #[t, t] })
    (e : TypeId) (z : Value) (size bytes : Nat) (ht : P.underlying t = some (.slice e)) (hinfo : (P.info? e).map (fun i => (i.zero, i.size, i.bytes)) = some (some z, size, bytes))
    (hzs : z.cells.size = size) (hsz : 0 < size) (hs : Sta.none0.own W (a.eval s)) (ad : Addr) (m c : Nat) (hx : a.eval x = .slice (some ad) m c) (hm0 : 0 < m)
    (news : List Value) (hl : news.length = m * size) (hnews : ∀ j u, news[j]? = some u → W.cell? (ad.add j) = some u)
    (hn : m ≤ 4000000) (hby : bytes ≤ 100000)
    (h : ∀ v' w', Own w' W.heap.size e size v' m news → Below W.heap.size W w' → K (a.put o.dst v') w') : Oper.wp P o a W K Q := by
  obtain ⟨g, hg⟩ := hs
  obtain ⟨i0, hi, hz0, hz1, hz2⟩ := info_parts hinfo
  have hbytes : (0 + m) * bytes ≤ 140737488355328 := by
    calc (0 + m) * bytes ≤ 4000000 * 100000 := Nat.mul_le_mul (by omega) hby
      _ ≤ 140737488355328 := by decide
  obtain ⟨v', w', hr, h2, h3⟩ := run_append_arg_grows (P := P) W t o.type e i0 z size bytes ht hi hz0 hz1 hz2 hzs hsz ⟨g, 0, none⟩ 0 0 [] (by simp) (fun j u hu => by simp at hu) ad m c news hl hnews (by omega) (by unfold maxLen; omega) hbytes
  unfold Oper.wp execOp
  simp only [ho, resolve, invoke, builtin, Sem.run_bind, Sem.run_pure, Result.andThen_ok, List.map_toArray, List.map_cons, List.map_nil, hg, hx, hr]
  rw [Nat.zero_add, List.nil_append] at h2
  refine h v' w' ⟨h2, fun e2 => ?_⟩ ⟨h3.os, h3.tape, h3.output, h3.size, fun k hk => h3.block k hk (by simp)⟩
  rcases h2.2 with ⟨-, h0⟩ | ⟨g2, cap, cur, hv, -⟩
  · omega
  · rw [hv] at e2; cases e2
/-- 'append(xs, x)' of an own row and a literal of one. -/
theorem wp_append_lit1 {P : Program} {W : World} {o : Oper} {a : Act} {K : Act → World → Prop} {Q : Exit → Act → World → Prop} (s x : Operand) (t : TypeId)
    (ho : o.op = .call { callee := .builtin .append, args := #[s, x], argTypes := #[t, t] })
    (B : Nat) (e : TypeId) (z : Value) (size bytes : Nat) (ht : P.underlying t = some (.slice e)) (hinfo : (P.info? e).map (fun i => (i.zero, i.size, i.bytes)) = some (some z, size, bytes))
    (hzs : z.cells.size = size) (hsz : 0 < size) (n : Nat) (xs news : List Value) (hown : (Sta.owned B e size n xs).own W (a.eval s)) (hx : (Sta.one news).own W (a.eval x)) (hl : news.length = size) (h1 : ∀ u ∈ news, u.oneCell' = true)
    (hn : n ≤ 4000000) (hby : bytes ≤ 100000) {w0 : World} (hb0 : Below w0.heap.size w0 W) (hB : w0.heap.size ≤ B) (hBW : B ≤ W.heap.size)
    (h : ∀ v' w', (Sta.owned B e size (n + 1) (xs ++ news)).own w' v' → Below w0.heap.size w0 w' → K (a.put o.dst v') w') : Oper.wp P o a W K Q := by
  obtain ⟨g, hg, hc⟩ := hx
  obtain ⟨i0, hi, hz0, hz1, hz2⟩ := info_parts hinfo
  have hbytes : (n + 1) * bytes ≤ 140737488355328 := by
    calc (n + 1) * bytes ≤ 4000001 * 100000 := Nat.mul_le_mul (by omega) hby
      _ ≤ 140737488355328 := by decide
  have hown' : Own W B e size (a.eval s) n xs := hown
  refine wp_append_own W s x t ho B e i0 z size bytes ht hi hz0 hz1 hz2 hzs hsz _ n xs rfl hown'.1 ⟨g, 0, none⟩ 1 1 news hg (by rw [hl, Nat.one_mul]) (fun j u hu => ?_) h1 (by unfold maxLen; omega) hbytes hBW ?_
  · rw [show (⟨g, 0, none⟩ : Addr).add j = ⟨g, j, none⟩ by unfold Addr.add; split <;> simp_all]; exact hc j u hu
  · intro v' w' h2 h3 h4
    exact h v' w' ⟨h2, fun e2 => by have := (h4.1 e2).2; omega⟩ (hb0.grown h3 hb0.size (fun k hk => Nat.le_trans hB (hown'.1.lt k hk).1))
end Go.Proofs.YtaaffpolmecicaaGreat
/- The contracts of the model's l9Put, PutVersions. -/
namespace Go.Proofs.YtaaffpolmecicaaGreat
open Go.RowKit
set_option linter.unusedVariables false
set_option linter.unusedSimpArgs false
/-- The first m of an owned row, in the same block. -/
theorem Own.take {w : World} {B : Nat} {e : TypeId} {size n g cap : Nat} {xs : List Value} (h : Own w B e size (.slice (some ⟨g, 0, none⟩) n cap) n xs) {m : Nat} (hm : m ≤ n) : Own w B e size (.slice (some ⟨g, 0, none⟩) m cap) m (xs.take (m * size)) := by
  obtain ⟨⟨h1, h2⟩, h3⟩ := h
  have hmn : m * size ≤ n * size := Nat.mul_le_mul_right _ hm
  refine ⟨⟨by rw [List.length_take, h1]; exact Nat.min_eq_left hmn, .inr ?_⟩, by simp⟩
  rcases h2 with ⟨h2, -⟩ | ⟨g', cap', cur, h2, hB, hg, hc, hcm, hs, ht⟩
  · simp at h2
  · simp only [Value.slice.injEq, Option.some.injEq, Addr.mk.injEq, and_true] at h2
    obtain ⟨rfl, -, rfl⟩ := h2
    refine ⟨g, cap, cur, rfl, hB, hg, by omega, hcm, hs, ?_⟩
    rw [← ht, List.take_take, Nat.min_eq_left hmn]
theorem flatV_take (X : List Ver) (m : Nat) (h : m ≤ X.length) : (flatV X).take (m * 3) = flatV (X.take m) := by
  have e : flatV X = flatV (X.take m) ++ flatV (X.drop m) := by rw [← flatV_append, List.take_append_drop]
  have hl : (flatV (X.take m)).length = m * 3 := by rw [flatV_len, List.length_take, Nat.min_eq_left h]
  rw [e, ← hl]; exact List.take_left
/-- The first j all stand ahead of v. -/
def InsTo (X : List Ver) (v : Ver) (j : Nat) : Prop := ∀ i, i < j → vLt (X.getD i noV) v
theorem InsTo.zero (X : List Ver) (v : Ver) : InsTo X v 0 := fun i hi => absurd hi (Nat.not_lt_zero i)
theorem InsTo.next {X : List Ver} {v : Ver} {j : Nat} (h : InsTo X v j) (hj : vLt (X.getD j noV) v) : InsTo X v (j + 1) := by
  intro i hi
  by_cases e : i = j
  · rw [e]; exact hj
  · exact h i (by omega)
theorem InsTo.done {X : List Ver} {v : Ver} {j : Nat} (h : InsTo X v j) (hj : j ≤ X.length) (hn : j < X.length → ¬ vLt (X.getD j noV) v) : insV v X = X.take j ++ v :: X.drop j := insV_at v X j hj h hn
end Go.Proofs.YtaaffpolmecicaaGreat
/- The contract of the model's PutVersions. -/
namespace Go.Proofs.YtaaffpolmecicaaGreat
open Go.RowKit
set_option linter.unusedVariables false
set_option linter.unusedSimpArgs false
/-- New versions, and a truth value. -/
def NewVB (w : World) (e0 : TypeId) (p : List Ver × Bool) (e : Ending) (w' : World) : Prop :=
  ∃ v, e = .returned (.tuple #[v, .bool p.2]) ∧ Own w' w.heap.size e0 3 v p.1.length (flatV p.1) ∧ WfVs p.1 ∧ Below w.heap.size w w'
end Go.Proofs.YtaaffpolmecicaaGreat

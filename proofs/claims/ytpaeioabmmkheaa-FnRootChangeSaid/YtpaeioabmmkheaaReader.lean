/- The law's own reader of code bytes (spec.l20Rd): what it is in memory, and what pick gives. -/
import Derived.Test.YtpaeioabmmkheaaBase
namespace Go.Proofs.Ytpaeioabmmkheaa
open Go.RowKit

/-- The slice (a, len) reads as the bytes z. -/
def RowB (w : World) (a : Option Addr) (len : Nat) (z : List Int) : Prop :=
  z.length = len ∧ len ≤ maxLen ∧ (0 < len → ∃ b off, a = some ⟨b, off, none⟩ ∧ ∀ i, i < len → w.cell? ⟨b, off + i, none⟩ = some (.int .u8 (z.getD i 0))) ∧ ∀ n ∈ z, (Lit.int .u8 n).wf = true

theorem rowB_of_in {w : World} {a : Option Addr} {len cap : Nat} {zs : List Int}
    (h : (a = none ∧ len = 0 ∧ cap = 0 ∧ zs = []) ∨ ∃ x, a = some x ∧ len ≤ cap ∧ cap ≤ maxLen ∧ zs.length = cap ∧ (∀ i, i < zs.length → w.cell? (x.add i) = some (.int .u8 (zs.getD i 0))) ∧ ∀ n ∈ zs, (Lit.int .u8 n).wf = true) :
    RowB w a len (zs.take len) := by
  rcases h with ⟨rfl, rfl, rfl, rfl⟩ | ⟨x, rfl, hl, hm, hz, hc, hw⟩
  · exact ⟨rfl, by unfold maxLen; omega, fun h => absurd h (by omega), fun n hn => by cases hn⟩
  · refine ⟨by rw [List.length_take]; omega, by omega, fun h0 => ?_, fun n hn => hw n (List.mem_of_mem_take hn)⟩
    obtain ⟨b, off, spot⟩ := x
    have hc0 := hc 0 (by omega)
    have hspot : spot = none := by simpa [Addr.add] using World.cell?_spot hc0
    subst hspot
    refine ⟨b, off, rfl, fun i hi => ?_⟩
    have := hc i (by omega)
    rw [show (⟨b, off, none⟩ : Addr).add i = ⟨b, off + i, none⟩ by simp [Addr.add]] at this
    rw [this, List.getD_eq_getElem?_getD, List.getD_eq_getElem?_getD, List.getElem?_take, if_pos hi]

theorem RowB.bd {w : World} {a : Option Addr} {len : Nat} {z : List Int} (h : RowB w a len z) (k : Nat) (hk : k < len) : 0 ≤ z.getD k 0 ∧ z.getD k 0 ≤ 255 := by
  have := h.2.2.2 _ (getD_mem z k (by rw [h.1]; exact hk))
  simpa [Lit.wf, IntKind.min, IntKind.max, IntKind.signed, IntKind.bits] using this

/-- The shorter slice over the same bytes. -/
theorem RowB.cut {w : World} {a : Option Addr} {len m : Nat} {z : List Int} (h : RowB w a len z) (hm : m ≤ len) : RowB w a m (z.take m) := by
  obtain ⟨h1, h2, h3, h4⟩ := h
  refine ⟨by rw [List.length_take]; omega, by omega, fun h0 => ?_, fun n hn => h4 n (List.mem_of_mem_take hn)⟩
  obtain ⟨b, off, he, hc⟩ := h3 (by omega)
  refine ⟨b, off, he, fun i hi => ?_⟩
  rw [hc i (by omega), List.getD_eq_getElem?_getD, List.getD_eq_getElem?_getD, List.getElem?_take, if_pos hi]

/-- w' is w with new blocks, and with writes to the block R alone. -/
def Upd (R : Nat) (w w' : World) : Prop := w.grownBy w' (some R)
theorem Upd.refl (R : Nat) (w : World) : Upd R w w := World.grownBy.refl w _
theorem Upd.trans {R : Nat} {a b c : World} (h : Upd R a b) (k : Upd R b c) : Upd R a c :=
  ⟨k.os.trans h.os, k.tape.trans h.tape, k.output.trans h.output, Nat.le_trans h.size k.size, fun i hi hr => (k.block i (Nat.lt_of_lt_of_le hi h.size) hr).trans (h.block i hi hr)⟩
theorem Upd.alloc {R : Nat} {a w : World} (h : Upd R a w) (o : Obj) : Upd R a (w.alloc o) := h.trans (World.grownBy_alloc w o _)
theorem Upd.drewN {R : Nat} {a w : World} (h : Upd R a w) (n : Nat) : Upd R a (w.drewN n) := h.trans ⟨rfl, rfl, rfl, Nat.le_refl _, fun _ _ _ => rfl⟩
theorem Upd.drew {R : Nat} {a w : World} (h : Upd R a w) : Upd R a w.drew := h.trans ⟨rfl, rfl, rfl, Nat.le_refl _, fun _ _ _ => rfl⟩
theorem Upd.setCell {R : Nat} {a w : World} (h : Upd R a w) (o : Nat) (v : Value) : Upd R a (w.setCell ⟨R, o, none⟩ v) :=
  h.trans ⟨rfl, rfl, rfl, by simp [World.setCell], fun k _ hk => Below.heap_setCell _ _ _ _ (fun e => hk (by simp [e]))⟩
theorem Upd.cell {R : Nat} {w w' : World} (h : Upd R w w') {b o : Nat} {v : Value} (hc : w.cell? ⟨b, o, none⟩ = some v) (hne : b ≠ R) : w'.cell? ⟨b, o, none⟩ = some v :=
  World.grownBy.cell h hc (by simpa using hne)
theorem Upd.below {R B : Nat} {a w w' : World} (h : Upd R w w') (hb : Below B a w) (hB : B ≤ w.heap.size) (hR : B ≤ R) : Below B a w' :=
  hb.grown h hB (fun k hk => by simp at hk; omega)
theorem Upd.rowI {R : Nat} {w w' : World} {a : Option Addr} {len : Nat} {l : List Int} (h : Upd R w w') (hr : RowI w a len l) (hne : ∀ b o, a = some ⟨b, o, none⟩ → b ≠ R) : RowI w' a len l := by
  obtain ⟨h1, h2, h3, h4⟩ := hr
  refine ⟨h1, h2, fun hl => ?_, h4⟩
  obtain ⟨b, off, he, hc⟩ := h3 hl
  exact ⟨b, off, he, fun i hi => h.cell (hc i hi) (hne b off he)⟩

/-- The block R is a reader: of the bytes z at (a, len, cap), at the place p. -/
def Rdr (w : World) (R : Nat) (a : Option Addr) (len cap : Nat) (z : List Int) (p : Nat) : Prop :=
  w.cell? ⟨R, 0, none⟩ = some (.slice a len cap) ∧ w.cell? ⟨R, 1, none⟩ = some (.int .i64 p) ∧ w.frozen? ⟨R, 1, none⟩ = false ∧ len ≤ 2000 ∧ z.length = len ∧
  (0 < len → ∀ b o, a = some ⟨b, o, none⟩ → b < R) ∧ RowB w a len z

theorem Rdr.grown {w w' : World} {R : Nat} {row : Option Nat} {a : Option Addr} {len cap : Nat} {z : List Int} {p : Nat} (h : Rdr w R a len cap z p) (hg : w.grownBy w' row) (hrow : ∀ k, row = some k → R < k) : Rdr w' R a len cap z p := by
  obtain ⟨h1, h2, h3, h4, h5, h6, h7, h8, h9, h10⟩ := h
  have hlt : R < w.heap.size := World.block_lt_of_cell? w ⟨R, 1, none⟩ h2
  have hne : some R ≠ row := fun e => by have := hrow R e.symm; omega
  refine ⟨hg.cell h1 hne, hg.cell h2 hne, ?_, h4, h5, h6, h7, h8, fun hl => ?_, h10⟩
  · have : w'.frozen? ⟨R, 1, none⟩ = w.frozen? ⟨R, 1, none⟩ := World.frozen?_of_block (hg.block R hlt hne)
    rw [this]; exact h3
  · obtain ⟨b, off, he, hc⟩ := h9 hl
    exact ⟨b, off, he, fun i hi => hg.cell (hc i hi) (fun e => by have := hrow b e.symm; have := h6 hl b off he; omega)⟩

/-- A reader, whatever it has read, at most P places. -/
def Rd (w : World) (R : Nat) (P : Nat) : Prop := ∃ a len cap z p, Rdr w R a len cap z p ∧ p ≤ P
theorem Rd.mono {w : World} {R P P' : Nat} (h : Rd w R P) (hP : P ≤ P') : Rd w R P' := by
  obtain ⟨a, len, cap, z, p, h1, h2⟩ := h; exact ⟨a, len, cap, z, p, h1, by omega⟩

theorem xor_i64_nn (x y : Int) (hx : 0 ≤ x) (hx' : x ≤ 1152921504606846976) (hy : 0 ≤ y) (hy' : y ≤ 1152921504606846976) :
    0 ≤ bits .xor .i64 x y ∧ bits .xor .i64 x y ≤ 2305843009213693951 := by
  obtain ⟨a, rfl⟩ := Int.eq_ofNat_of_zero_le hx
  obtain ⟨b, rfl⟩ := Int.eq_ofNat_of_zero_le hy
  have hz : a ^^^ b < 2 ^ 61 := Nat.xor_lt_two_pow (by omega) (by omega)
  have h1 : (BitVec.ofInt 64 (a : Int)).toNat = a := by
    rw [BitVec.ofInt_natCast, BitVec.toNat_ofNat]; exact Nat.mod_eq_of_lt (by omega)
  have h2 : (BitVec.ofInt 64 (b : Int)).toNat = b := by
    rw [BitVec.ofInt_natCast, BitVec.toNat_ofNat]; exact Nat.mod_eq_of_lt (by omega)
  have e : bits .xor .i64 (a : Int) (b : Int) = ((a ^^^ b : Nat) : Int) := by
    show IntKind.i64.wrap ((BitVec.ofInt 64 (a : Int) ^^^ BitVec.ofInt 64 (b : Int)).toNat : Int) = _
    rw [BitVec.toNat_xor, h1, h2]
    exact IntWalk.i64_in _ (by omega)
  rw [e]; omega

/-- What pick gives: a number below n (0 where n is no bound), the reader one place further, nothing else turned. -/
def Picked (w : World) (R P : Nat) (n : Int) (e : Ending) (w' : World) : Prop :=
  ∃ x : Int, e = .returned (.int .i64 x) ∧ 0 ≤ x ∧ (1 ≤ n → x < n) ∧ (n < 1 → x = 0) ∧ Rd w' R (P + 1) ∧ Upd R w w'
/-- What was there, but for the block R, reads as it did: as a rule for the walk. -/
theorem Upd.keeps {R : Nat} {w w' : World} (h : Upd R w w') : ∀ b o, R < b → b < w.heap.size → w'.cell? ⟨b, o, none⟩ = w.cell? ⟨b, o, none⟩ :=
  fun b o h1 h2 => World.cell?_of_block (w := w) (h.block b h2 (by simp; omega))
theorem Rd.grown {w w' : World} {R P : Nat} {row : Option Nat} (h : Rd w R P) (hg : w.grownBy w' row) (hrow : ∀ k, row = some k → R < k) : Rd w' R P := by
  obtain ⟨a, len, cap, z, p, h1, h2⟩ := h; exact ⟨a, len, cap, z, p, h1.grown hg hrow, h2⟩
theorem Rd.alloc {w : World} {R P : Nat} (h : Rd w R P) (o : Obj) : Rd (w.alloc o) R P :=
  h.grown (World.grownBy_alloc w o none) (fun k hk => by cases hk)
theorem Rd.drewN {w : World} {R P : Nat} (h : Rd w R P) (n : Nat) : Rd (w.drewN n) R P := h
theorem Rd.drew {w : World} {R P : Nat} (h : Rd w R P) : Rd w.drew R P := h
theorem Rd.lt {w : World} {R P : Nat} (h : Rd w R P) : R < w.heap.size := by
  obtain ⟨a, len, cap, z, p, h1, h2⟩ := h; exact World.block_lt_of_cell? w ⟨R, 1, none⟩ h1.2.1
/-- The block of what is owned from base on is no block below base. -/
theorem own_ne {w : World} {base e size n R : Nat} {v : Value} {xs : List Value} (h : w.ownsRow base e size v n xs) (hR : R < base) : v.ownBlock ≠ some R := by
  intro e
  have := (h.lt R e).1
  omega
end Go.Proofs.Ytpaeioabmmkheaa

/- What the exact laws over effects hold on to: an effect in a block of its own with two rows of its own, all of them within an interval of blocks. -/
import Derived.Test.YtakbkomgmajnfaaConvEff
import Derived.Test.YtakbkomgmajnfaaSpecEff2
import Derived.Test.YtakbkomgmajnfaaLay
namespace Go.Proofs.Ytakbkomgmajnfaa
open Go.RowKit
set_option linter.unusedVariables false
/-- Two rows, of the blocks [B, T), apart. -/
structure Row2 (w : World) (B T : Nat) (a : Option Addr) (c : Nat) (b : Option Addr) (d : Nat) (x : Eff) : Prop where
  o1 : w.ownsRow B 32 2 (.slice a x.rds.length c) x.rds.length (flatE x.rds)
  o2 : w.ownsRow B 32 2 (.slice b x.wrs.length d) x.wrs.length (flatE x.wrs)
  ap : ∀ p, Value.ownBlock (.slice a x.rds.length c) = some p → Value.ownBlock (.slice b x.wrs.length d) ≠ some p
  t1 : ∀ p, Value.ownBlock (.slice a x.rds.length c) = some p → p < T
  t2 : ∀ p, Value.ownBlock (.slice b x.wrs.length d) = some p → p < T
  wf : WfE x.rds ∧ WfE x.wrs
  ln : x.rds.length ≤ 4000000 ∧ x.wrs.length ≤ 4000000
theorem Row2.row {w : World} {B T : Nat} {a : Option Addr} {c : Nat} {b : Option Addr} {d : Nat} {x : Eff} (h : Row2 w B T a c b d x) : RowF w a x.rds.length b x.wrs.length x :=
  ⟨rowE_owned h.o1 rfl h.ln.1 h.wf.1, rowE_owned h.o2 rfl h.ln.2 h.wf.2⟩
theorem row2_rows {w : World} {B : Nat} {v : Value} {x : Eff} (h : OwnF w B 32 v x) (h1 : x.rds.length ≤ 4000000) (h2 : x.wrs.length ≤ 4000000) :
    ∃ a c b d, v = .agg #[.bool x.done, .slice a x.rds.length c, .slice b x.wrs.length d] ∧ Row2 w B w.heap.size a c b d x ∧ (a = none → c = 0) ∧ (b = none → d = 0) := by
  obtain ⟨a, c, b, d, e, hr, g1, g2, g3, z1, z2⟩ := h.rows h1 h2
  exact ⟨a, c, b, d, e, ⟨g1, g2, g3, fun p hp => (g1.lt p hp).2, fun p hp => (g2.lt p hp).2, ⟨hr.1.2.2.2, hr.2.2.2.2⟩, ⟨h1, h2⟩⟩, z1, z2⟩
theorem Row2.blocks {w w' : World} {B T : Nat} {a : Option Addr} {c : Nat} {b : Option Addr} {d : Nat} {x : Eff} (h : Row2 w B T a c b d x) (hk : ∀ p, B ≤ p → p < T → p < w.heap.size → w'.heap[p]? = w.heap[p]?) : Row2 w' B T a c b d x :=
  ⟨owns_keep h.o1 (fun p hp => by rw [owns_blk h.o1] at hp; exact hk p (h.o1.lt p hp).1 (h.t1 p hp) (h.o1.lt p hp).2), owns_keep h.o2 (fun p hp => by rw [owns_blk h.o2] at hp; exact hk p (h.o2.lt p hp).1 (h.t2 p hp) (h.o2.lt p hp).2), h.ap, h.t1, h.t2, h.wf, h.ln⟩
theorem Row2.below {w w' : World} {B T : Nat} {a : Option Addr} {c : Nat} {b : Option Addr} {d : Nat} {x : Eff} (h : Row2 w B T a c b d x) (hb : Below w.heap.size w w') : Row2 w' B T a c b d x := h.blocks (fun p _ _ hp => hb.block p hp)
theorem Row2.grown1 {w w' : World} {B T g : Nat} {a : Option Addr} {c : Nat} {b : Option Addr} {d : Nat} {x : Eff} (h : Row2 w B T a c b d x) (hg : w.grownBy w' (some g)) (hne : g < B ∨ T ≤ g) : Row2 w' B T a c b d x :=
  h.blocks (fun p h1 h2 hp => hg.block p hp (by simp; omega))
/-- The rows of another effect, of other blocks, have been written. -/
theorem Row2.two {w w' : World} {B T B' T' : Nat} {a a' : Option Addr} {c c' : Nat} {b b' : Option Addr} {d d' : Nat} {x x' : Eff} (h : Row2 w B T a c b d x) (h' : Row2 w B' T' a' c' b' d' x') (ht : Two (.slice a' x'.rds.length c') (.slice b' x'.wrs.length d') w w') (hd : T' ≤ B ∨ T ≤ B') : Row2 w' B T a c b d x :=
  h.blocks (fun p h1 h2 hp => ht.2 p hp (fun e => by have := (h'.o1.lt p e).1; have := h'.t1 p e; omega) (fun e => by have := (h'.o2.lt p e).1; have := h'.t2 p e; omega))
theorem EAt.two {w w' : World} {G : Nat} {dn : Bool} {v u : Value} {B' T' : Nat} {a' : Option Addr} {c' : Nat} {b' : Option Addr} {d' : Nat} {x' : Eff} (h : EAt w G dn v u) (h' : Row2 w B' T' a' c' b' d' x') (ht : Two (.slice a' x'.rds.length c') (.slice b' x'.wrs.length d') w w') (hd : G < B' ∨ T' ≤ G) : EAt w' G dn v u := by
  have hb := ht.2 G h.2.2 (fun e => by have := (h'.o1.lt G e).1; have := h'.t1 G e; omega) (fun e => by have := (h'.o2.lt G e).1; have := h'.t2 G e; omega)
  obtain ⟨⟨h1, h2, h3⟩, ⟨h4, h5, h6⟩, h7⟩ := h
  exact ⟨⟨(World.cell?_of_block hb).trans h1, (World.cell?_of_block hb).trans h2, (World.cell?_of_block hb).trans h3⟩, ⟨(World.frozen?_of_block hb).trans h4, (World.frozen?_of_block hb).trans h5, (World.frozen?_of_block hb).trans h6⟩, Nat.lt_of_lt_of_le h7 ht.1⟩
/-- markEffect over rows of our own. -/
theorem markEffect_row (B T : Nat) (a : Option Addr) (c : Nat) (b : Option Addr) (c2 : Nat) (x : Eff) (k : Int) (w : World) (h : Row2 w B T a c b c2 x) (hl1 : x.rds.length ≤ 2000000) (hl2 : x.wrs.length ≤ 2000000) (hk0 : 0 ≤ k) (hk1 : k ≤ 10000000) (hB : B ≤ w.heap.size) :
    Calls Try.prog 48 #[.agg #[.bool x.done, .slice a x.rds.length c, .slice b x.wrs.length c2], .int .i64 k] w (MarkedF w B (.slice a x.rds.length c) (.slice b x.wrs.length c2) x k) :=
  markEffect_own B a c b c2 x k w h.o1 h.o2 h.ap hl1 hl2 hk0 hk1 hB
theorem markedF_rows {w : World} {B : Nat} {a : Option Addr} {c : Nat} {b : Option Addr} {d : Nat} {x : Eff} {k : Int} (h1 : w.ownsRow B 32 2 (.slice a x.rds.length c) x.rds.length (flatE (marksE k x.rds.length)))
    (h2 : w.ownsRow B 32 2 (.slice b x.wrs.length d) x.wrs.length (flatE (marksE (k + 2 * x.rds.length) x.wrs.length))) (hl1 : x.rds.length ≤ 2000000) (hl2 : x.wrs.length ≤ 2000000) (hk0 : 0 ≤ k) (hk1 : k ≤ 10000000) :
    RowE w a x.rds.length (marksE k x.rds.length) ∧ RowE w b x.wrs.length (marksE (k + 2 * x.rds.length) x.wrs.length) :=
  ⟨rowE_owned h1 (marksE_len _ _) (by rw [marksE_len]; omega) (wfE_marks _ _ (by omega) (by omega) (by omega)), rowE_owned h2 (marksE_len _ _) (by rw [marksE_len]; omega) (wfE_marks _ _ (by omega) (by omega) (by omega))⟩
end Go.Proofs.Ytakbkomgmajnfaa

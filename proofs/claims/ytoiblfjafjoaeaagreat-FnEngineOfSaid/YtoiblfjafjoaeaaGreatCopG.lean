/- Texts of ours that stand together: Clone, SxAt, Copied, Copied2 -/
import Derived.Test.YtoiblfjafjoaeaaGreatSpecE0
import Derived.Lib.BufferMore
import Derived.Test.YtoiblfjafjoaeaaGreatEngM
import Derived.Test.YtoiblfjafjoaeaaGreatOwnG
import Derived.Test.YtoiblfjafjoaeaaGreatSpecX
import Derived.Deep.RegionHeld3
import Derived.Deep.MidRow
/- The contracts of slices.Clone at entries and actions (gen11/engof.py). -/
namespace Go.Proofs.YtoiblfjafjoaeaaGreat
open Go.RowKit
set_option linter.unusedVariables false
def CopyR (w:World) (e0:TypeId) (size n:Nat) (cs:List Value) (e:Ending) (w':World):Prop:=∃ v,e = .returned v∧w'.ownsRow w.heap.size e0 size v n cs∧Below w.heap.size w w'
set_option maxRecDepth 100000 in
set_option maxHeartbeats 1000000 in
theorem cloneE_any (a:Option Addr) (n cap:Nat) (S:List Ent) (w:World) (h:RowE w a n S) (hz:a=none→cap=0) (hn:n≤3000000) :
  Calls Tryz.prog 52 #[.slice a n cap] w (CopyR w 67 2 n (flatE S)):=by
 have hl:=h.1
 cases a with
 | none =>
  have h0:n=0:=by
   rcases Nat.eq_zero_or_pos n with e | e
   · exact e
   · obtain ⟨b,o,he,-⟩:=h.2.2.1 e;cases he
  obtain rfl:cap=0:=hz rfl
  subst h0
  obtain rfl:S=[]:=List.eq_nil_of_length_eq_zero hl
  clear h hz hl
  have hnil:∀ W,(binOp .eql 23 (.slice none 0 0) (.slice none 0 0)).run Tryz.prog W = .ok (.bool true) W:=fun W=>Lib.run_eql_slice_nil_nil W 0 0 Tryz.underlying23
  go_enter Tryz.func52,Tryz.ntmps52
  go_wp2
  go_ret
  exact ⟨_,rfl,World.ownsRow_nil _ _ _ _,Below.refl _ _⟩
 | some p =>
  have ho:=own_lit (w:=w) (B:=w.heap.size) 67 2 #[] 0 (Nat.le_refl _) (by unfold maxLen;omega) rfl
  have hb3:=(Below.refl w.heap.size w).alloc (Nat.le_refl _) (.cells #[] 67)
  have HR3:=Lib.hid (h.below hb3)
  have HNL:Hid ((some p:Option Addr)=none→n=0∧cap=0):=Lib.hid (fun e=>by cases e)
  have HLN:=Lib.hid (show (flatE S).length=n*2 by rw [flatE_len,hl])
  have HL:=Lib.hid hl
  clear h hz hl
  have hnil:∀ W,(binOp .eql 23 (.slice (some p) n cap) (.slice none 0 0)).run Tryz.prog W = .ok (.bool false) W:=fun W=>Lib.run_eql_slice_some_nil W p n cap Tryz.underlying23
  go_enter Tryz.func52,Tryz.ntmps52
  go_wp2_with (first | (at_builtin;refine wpList_append_rows rfl _ _ 23 rfl w.heap.size 67 (.agg #[.int .i64 0,.int .i64 0]) 2 16 Tryz.underlying23 infoEnt rfl (by decide) _ 0 [] (flatE S) (by rfl) ho (some p) n cap (by rfl) HNL.out HLN.out HR3.out.news (flatE_oneCell S) (by omega) (by decide) (by simp) ?_;intro v5 w5 ho5 hg5;have hb5:=hb3.grown hg5 (by simp) (fun q hq=>(ho.1.lt q hq).1)))
  rw [Nat.zero_add,List.nil_append] at ho5
  have HO:=Lib.hid ho5.1
  have HB:=Lib.hid hb5
  clear ho ho5 hg5 hb5 hb3
  go_ret
  exact ⟨_,rfl,HO.out,HB.out⟩
set_option maxRecDepth 100000 in
set_option maxHeartbeats 1000000 in
theorem cloneA_any (a:Option Addr) (n cap:Nat) (S:List Acn) (w:World) (h:RowA w a n S) (hz:a=none→cap=0) (hn:n≤3000000) :
  Calls Tryz.prog 53 #[.slice a n cap] w (CopyR w 72 4 n (flatA S)):=by
 have hl:=h.1
 cases a with
 | none =>
  have h0:n=0:=by
   rcases Nat.eq_zero_or_pos n with e | e
   · exact e
   · obtain ⟨b,o,he,-⟩:=h.2.2.1 e;cases he
  obtain rfl:cap=0:=hz rfl
  subst h0
  obtain rfl:S=[]:=List.eq_nil_of_length_eq_zero hl
  clear h hz hl
  have hnil:∀ W,(binOp .eql 24 (.slice none 0 0) (.slice none 0 0)).run Tryz.prog W = .ok (.bool true) W:=fun W=>Lib.run_eql_slice_nil_nil W 0 0 Tryz.underlying24
  go_enter Tryz.func53,Tryz.ntmps53
  go_wp2
  go_ret
  exact ⟨_,rfl,World.ownsRow_nil _ _ _ _,Below.refl _ _⟩
 | some p =>
  have ho:=own_lit (w:=w) (B:=w.heap.size) 72 4 #[] 0 (Nat.le_refl _) (by unfold maxLen;omega) rfl
  have hb3:=(Below.refl w.heap.size w).alloc (Nat.le_refl _) (.cells #[] 72)
  have HR3:=Lib.hid (h.below hb3)
  have HNL:Hid ((some p:Option Addr)=none→n=0∧cap=0):=Lib.hid (fun e=>by cases e)
  have HLN:=Lib.hid (show (flatA S).length=n*4 by rw [flatA_len,hl])
  have HL:=Lib.hid hl
  clear h hz hl
  have hnil:∀ W,(binOp .eql 24 (.slice (some p) n cap) (.slice none 0 0)).run Tryz.prog W = .ok (.bool false) W:=fun W=>Lib.run_eql_slice_some_nil W p n cap Tryz.underlying24
  go_enter Tryz.func53,Tryz.ntmps53
  go_wp2_with (first | (at_builtin;refine wpList_append_rows rfl _ _ 24 rfl w.heap.size 72 (.agg #[.int .i64 0,.int .i64 0,.int .i64 0,.int .i64 0]) 4 32 Tryz.underlying24 infoActE rfl (by decide) _ 0 [] (flatA S) (by rfl) ho (some p) n cap (by rfl) HNL.out HLN.out HR3.out.news (flatA_one S) (by omega) (by decide) (by simp) ?_;intro v5 w5 ho5 hg5;have hb5:=hb3.grown hg5 (by simp) (fun q hq=>(ho.1.lt q hq).1)))
  rw [Nat.zero_add,List.nil_append] at ho5
  have HO:=Lib.hid ho5.1
  have HB:=Lib.hid hb5
  clear ho ho5 hg5 hb5 hb3
  go_ret
  exact ⟨_,rfl,HO.out,HB.out⟩
end Go.Proofs.YtoiblfjafjoaeaaGreat
/- A block that holds a slot;a new slot. No function of the program is named here. -/
namespace Go.Proofs.YtoiblfjafjoaeaaGreat
open Go.RowKit
set_option linter.unusedVariables false
structure SxAt (w:World) (Z:Nat) (v0 v1 v2 v3 v4 v5:Value):Prop where
 c0:w.cell? ⟨Z,0,none⟩=some v0
 c1:w.cell? ⟨Z,1,none⟩=some v1
 c2:w.cell? ⟨Z,2,none⟩=some v2
 c3:w.cell? ⟨Z,3,none⟩=some v3
 c4:w.cell? ⟨Z,4,none⟩=some v4
 c5:w.cell? ⟨Z,5,none⟩=some v5
 f0:w.frozen? ⟨Z,0,none⟩=false
 f1:w.frozen? ⟨Z,1,none⟩=false
 f2:w.frozen? ⟨Z,2,none⟩=false
 f3:w.frozen? ⟨Z,3,none⟩=false
 f4:w.frozen? ⟨Z,4,none⟩=false
 f5:w.frozen? ⟨Z,5,none⟩=false
theorem SxAt.lt {w:World} {Z:Nat} {v0 v1 v2 v3 v4 v5:Value} (h:SxAt w Z v0 v1 v2 v3 v4 v5):Z < w.heap.size:=World.block_lt_of_cell? w ⟨Z,0,none⟩ h.c0
theorem SxAt.keep {w w':World} {Z:Nat} {v0 v1 v2 v3 v4 v5:Value} (h:SxAt w Z v0 v1 v2 v3 v4 v5) (hb:w'.heap[Z]? = w.heap[Z]?):SxAt w' Z v0 v1 v2 v3 v4 v5 :=
 ⟨(World.cell?_of_block hb).trans h.c0, (World.cell?_of_block hb).trans h.c1, (World.cell?_of_block hb).trans h.c2, (World.cell?_of_block hb).trans h.c3, (World.cell?_of_block hb).trans h.c4, (World.cell?_of_block hb).trans h.c5,
  (World.frozen?_of_block hb).trans h.f0,(World.frozen?_of_block hb).trans h.f1,(World.frozen?_of_block hb).trans h.f2,(World.frozen?_of_block hb).trans h.f3,(World.frozen?_of_block hb).trans h.f4,(World.frozen?_of_block hb).trans h.f5⟩
theorem SxAt.below {w w':World} {Z:Nat} {v0 v1 v2 v3 v4 v5:Value} (h:SxAt w Z v0 v1 v2 v3 v4 v5) (hb:Below w.heap.size w w'):SxAt w' Z v0 v1 v2 v3 v4 v5:=h.keep (hb.block Z h.lt)
theorem sxAt_new (w:World) (T:TypeId) (v0 v1 v2 v3 v4 v5:Value):SxAt (w.alloc (.cells #[v0,v1,v2,v3,v4,v5] T)) w.heap.size v0 v1 v2 v3 v4 v5:=by constructor <;> simp [go_sem]
theorem SxAt.set2 {w:World} {Z:Nat} {v0 v1 v2 v3 v4 v5:Value} (h:SxAt w Z v0 v1 v2 v3 v4 v5) (x:Value):SxAt (w.setCell ⟨Z,2,none⟩ x) Z v0 v1 x v3 v4 v5:=by
 constructor <;> simp [go_sem,h.c0,h.c1,h.c2,h.c3,h.c4,h.c5,h.f0,h.f1,h.f2,h.f3,h.f4,h.f5]
theorem SxAt.set3 {w:World} {Z:Nat} {v0 v1 v2 v3 v4 v5:Value} (h:SxAt w Z v0 v1 v2 v3 v4 v5) (x y z:Value):SxAt (((w.setCell ⟨Z,3,none⟩ x).setCell ⟨Z,4,none⟩ y).setCell ⟨Z,5,none⟩ z) Z v0 v1 v2 x y z:=by
 constructor <;> simp [go_sem,h.c0,h.c1,h.c2,h.c3,h.c4,h.c5,h.f0,h.f1,h.f2,h.f3,h.f4,h.f5]
end Go.Proofs.YtoiblfjafjoaeaaGreat
/- The contracts of slices.Clone at ints,of the program's Effect.copied and Slot.copied. -/
namespace Go.Proofs.YtoiblfjafjoaeaaGreat
open Go.RowKit
set_option linter.unusedVariables false
theorem below_cz {B G o:Nat} {w w':World} {v:Value} (hb:Below B w w') (hG:G < B) (hc:w.cell? ⟨G,o,none⟩=some v):w'.cell? ⟨G,o,none⟩=some v:=(hb.cell (p:=⟨G,o,none⟩) hG).trans hc
end Go.Proofs.YtoiblfjafjoaeaaGreat
/- The contract of the program's Slot.copied. -/
namespace Go.Proofs.YtoiblfjafjoaeaaGreat
open Go.RowKit
set_option linter.unusedVariables false
theorem SxAt.there {w:World} {Z:Nat} {v0 v1 v2 v3 v4 v5:Value} (h:SxAt w Z v0 v1 v2 v3 v4 v5):w.there Z 0 6:=by
 intro j hj
 obtain ⟨c0,c1,c2,c3,c4,c5,f0,f1,f2,f3,f4,f5⟩:=h
 rw [Nat.zero_add]
 rcases (by omega:j=0∨j=1∨j=2∨j=3∨j=4∨j=5) with rfl | rfl | rfl | rfl | rfl | rfl
 · exact ⟨by rw [c0];rfl,f0⟩
 · exact ⟨by rw [c1];rfl,f1⟩
 · exact ⟨by rw [c2];rfl,f2⟩
 · exact ⟨by rw [c3];rfl,f3⟩
 · exact ⟨by rw [c4];rfl,f4⟩
 · exact ⟨by rw [c5];rfl,f5⟩
end Go.Proofs.YtoiblfjafjoaeaaGreat

/- Texts of ours that stand together: InBl, InTr -/
import Derived.Test.YtnojhgckinibgabGreatActs
import Derived.Test.YtnojhgckinibgabGreatTrM
import Derived.Deep.SlicePairs
import Derived.ProofKit
import Derived.Lib.SmallJoins
import Derived.Test.YtnojhgckinibgabGreatConv
/- What comes in: a block of the laws' own type,by value,opened. -/
namespace Go.Proofs.YtnojhgckinibgabGreat
open Go.RowKit Go.Joins Go.Deep Go.WideShapes
set_option linter.unusedVariables false
theorem in_sliAv {H:Type} {enc:TypeId × Value→H} {w:World} {n:Nat} {v:Value} {y:DataW H × List MemPlace}
  (h:DataW.trod enc Tryz.prog w 0 (fun _=>true) true n 27 [v]=some y):∃ a m c l,v = .slice a m c∧RowA w a m l∧(a=none→c=0)∧m≤c:=by
 have hv:∃ a m c,v = .slice a m c:=by
  rcases Go.Deep.open_slice Tryz.underlying27 h with ⟨hcs,-⟩ | ⟨x,l,c,m,n,D,Pl,hcs,-⟩
  · exact ⟨_,_,_,by simpa using hcs⟩
  · exact ⟨_,_,_,by simpa using hcs⟩
 obtain ⟨a,m,c,rfl⟩:=hv
 obtain ⟨l,h1,h2,h3⟩:=in_rowA (enc:=enc) (w:=w) (a:=a) (len:=m) (cap:=c) (d:=y.1) (ps:=y.2) ⟨n,by simpa [Value.cells] using h⟩
 exact ⟨a,m,c,l,rfl,h1,h2,h3⟩
theorem in_fieldsBk:∃ f0 f1 f2 f3 f4 f5:Field,Tryz.prog.underlying 29 = some (.struct #[f0,f1,f2,f3,f4,f5])∧(f0.offset=0∧f1.offset=1∧f2.offset=2∧f3.offset=3∧f4.offset=4∧f5.offset=5)∧f0.type = 3∧f1.type = 3∧f2.type = 3∧f3.type = 27∧f4.type = 3∧f5.type = 3 :=
 ⟨_,_,_,_,_,_,Tryz.underlying29,⟨rfl,rfl,rfl,rfl,rfl,rfl⟩,rfl,rfl,rfl,rfl,rfl,rfl⟩
def IsBk (w:World) (cs:List Value) (b:Blk):Prop:=∃ a n c,cs=[.int .i64 b.bef,.int .i64 b.hgt,.int .i64 b.view,.slice a n c,.int .i64 b.root,.int .i64 b.effs]∧RowA w a n b.acts∧(a=none→c=0)∧n≤c∧WfB b
set_option maxRecDepth 100000 in
theorem in_cellsBk {H:Type} {enc:TypeId × Value→H} {w:World} (n:Nat) (cs:List Value) (y:DataW H × List MemPlace)
  (h:DataW.trod enc Tryz.prog w 0 (fun _=>true) true n 29 cs=some y):∃ x,IsBk w cs x:=by
 obtain ⟨f0,f1,f2,f3,f4,f5,hu,⟨o0,o1,o2,o3,o4,o5⟩,t0,t1,t2,t3,t4,t5⟩:=in_fieldsBk
 obtain ⟨xs,m,_,rfl,hl,hlen,hf⟩:=DataW.trod_struct hu h
 have hc : Tryz.prog.cellsOf 29 = 6:=by kernel_rfl
 have hi : Tryz.prog.cellsOf 3 = 1:=by kernel_rfl
 have hs : Tryz.prog.cellsOf 27 = 1:=by kernel_rfl
 rw [hc] at hl
 match xs,hlen with
 | [y0,y1,y2,y3,y4,y5],_ =>
  have g0:=hf 0 f0 rfl
  have g1:=hf 1 f1 rfl
  have g2:=hf 2 f2 rfl
  have g3:=hf 3 f3 rfl
  have g4:=hf 4 f4 rfl
  have g5:=hf 5 f5 rfl
  rw [o0,t0,hi] at g0
  rw [o1,t1,hi] at g1
  rw [o2,t2,hi] at g2
  rw [o3,t3,hs] at g3
  rw [o4,t4,hi] at g4
  rw [o5,t5,hi] at g5
  match cs,hl with
  | [c0,c1,c2,c3,c4,c5],_ =>
   obtain ⟨n0,h0,-,w0⟩:=DataW.trod_int Tryz.underlying3 g0
   obtain ⟨n1,h1,-,w1⟩:=DataW.trod_int Tryz.underlying3 g1
   obtain ⟨n2,h2,-,w2⟩:=DataW.trod_int Tryz.underlying3 g2
   obtain ⟨a,m,c,l,rfl,hr,hz,hlc⟩:=in_sliAv (v:=c3) (by simpa using g3)
   obtain ⟨n4,h4,-,w4⟩:=DataW.trod_int Tryz.underlying3 g4
   obtain ⟨n5,h5,-,w5⟩:=DataW.trod_int Tryz.underlying3 g5
   simp at h0 h1 h2 h4 h5
   subst h0;subst h1;subst h2;subst h4;subst h5
   exact ⟨⟨n0,n1,n2,l,n4,n5⟩,a,m,c,rfl,hr,hz,hlc,w0,w1,w2,w4,w5⟩
set_option maxRecDepth 100000 in
theorem in_blkV {H:Type} {enc:TypeId × Value→H} {w:World} {r:Reach} {b0:Nat} {v:Value} {d:DataW H} {ps:List MemPlace} (hv:Value.okWide Tryz.prog w r b0 29 v)
  (h:DataW.Trod enc Tryz.prog w 0 (fun _=>true) true 29 v d ps):∃ p q r a n c t u L,v = .agg #[.int .i64 p,.int .i64 q,.int .i64 r,.slice a n c,.int .i64 t,.int .i64 u]∧RowA w a n L∧(a=none→c=0)∧n≤c∧WfB ⟨p,q,r,L,t,u⟩:=by
 obtain ⟨f0,f1,f2,f3,f4,f5,hu,-⟩:=in_fieldsBk
 obtain ⟨cs,rfl,hsz⟩:=okWide_struct hu hv
 obtain ⟨fuel,hf⟩:=h
 obtain ⟨⟨p,q,r,L,t,u⟩,a,n,c,hcs,hr,hz,hlc,hw⟩:=in_cellsBk fuel _ _ hf
 have he:cs=#[.int .i64 p,.int .i64 q,.int .i64 r,.slice a n c,.int .i64 t,.int .i64 u]:=by
  have:cs.toList=[.int .i64 p,.int .i64 q,.int .i64 r,.slice a n c,.int .i64 t,.int .i64 u]:=by simpa [Value.cells] using hcs
  exact Array.toList_inj.1 this
 subst he
 exact ⟨p,q,r,a,n,c,t,u,L,rfl,hr,hz,hlc,hw⟩
end Go.Proofs.YtnojhgckinibgabGreat
/- What comes in: a tree of blocks of the laws' own type,by value,opened. -/
namespace Go.Proofs.YtnojhgckinibgabGreat
open Go.RowKit Go.Joins Go.Deep
set_option linter.unusedVariables false
end Go.Proofs.YtnojhgckinibgabGreat

/- Texts of ours that stand together: InBl, InTr, InCts -/
import Derived.Test.YtpnjgmgmakmgeaaGreatActs
import Derived.Test.YtpnjgmgmakmgeaaGreatTrM
import Derived.Deep.SlicePairs
import Derived.ProofKit
import Derived.Lib.SmallJoins
import Derived.Test.YtpnjgmgmakmgeaaGreatConv
import Derived.Test.YtpnjgmgmakmgeaaGreatVerA
/- What comes in: a block of the laws' own type,by value,opened. -/
namespace Go.Proofs.YtpnjgmgmakmgeaaGreat
open Go.RowKit Go.Joins Go.Deep Go.WideShapes
set_option linter.unusedVariables false
theorem in_sliAv {H:Type} {enc:TypeId × Value→H} {w:World} {n:Nat} {v:Value} {y:DataW H × List MemPlace}
  (h:DataW.trod enc Tryz.prog w 0 (fun _=>true) true n 57 [v]=some y):∃ a m c l,v = .slice a m c∧RowA w a m l∧(a=none→c=0)∧m≤c:=by
 have hv:∃ a m c,v = .slice a m c:=by
  rcases Go.Deep.open_slice Tryz.underlying57 h with ⟨hcs,-⟩ | ⟨x,l,c,m,n,D,Pl,hcs,-⟩
  · exact ⟨_,_,_,by simpa using hcs⟩
  · exact ⟨_,_,_,by simpa using hcs⟩
 obtain ⟨a,m,c,rfl⟩:=hv
 obtain ⟨l,h1,h2,h3⟩:=in_rowA (enc:=enc) (w:=w) (a:=a) (len:=m) (cap:=c) (d:=y.1) (ps:=y.2) ⟨n,by simpa [Value.cells] using h⟩
 exact ⟨a,m,c,l,rfl,h1,h2,h3⟩
theorem in_fieldsBk:∃ f0 f1 f2 f3 f4 f5:Field,Tryz.prog.underlying 59 = some (.struct #[f0,f1,f2,f3,f4,f5])∧(f0.offset=0∧f1.offset=1∧f2.offset=2∧f3.offset=3∧f4.offset=4∧f5.offset=5)∧f0.type = 3∧f1.type = 3∧f2.type = 3∧f3.type = 57∧f4.type = 3∧f5.type = 3 :=
 ⟨_,_,_,_,_,_,Tryz.underlying59,⟨rfl,rfl,rfl,rfl,rfl,rfl⟩,rfl,rfl,rfl,rfl,rfl,rfl⟩
def IsBk (w:World) (cs:List Value) (b:Blk):Prop:=∃ a n c,cs=[.int .i64 b.bef,.int .i64 b.hgt,.int .i64 b.view,.slice a n c,.int .i64 b.root,.int .i64 b.effs]∧RowA w a n b.acts∧(a=none→c=0)∧n≤c∧WfB b
set_option maxRecDepth 100000 in
theorem in_cellsBk {H:Type} {enc:TypeId × Value→H} {w:World} (n:Nat) (cs:List Value) (y:DataW H × List MemPlace)
  (h:DataW.trod enc Tryz.prog w 0 (fun _=>true) true n 59 cs=some y):∃ x,IsBk w cs x:=by
 obtain ⟨f0,f1,f2,f3,f4,f5,hu,⟨o0,o1,o2,o3,o4,o5⟩,t0,t1,t2,t3,t4,t5⟩:=in_fieldsBk
 obtain ⟨xs,m,_,rfl,hl,hlen,hf⟩:=DataW.trod_struct hu h
 have hc : Tryz.prog.cellsOf 59 = 6:=by kernel_rfl
 have hi : Tryz.prog.cellsOf 3 = 1:=by kernel_rfl
 have hs : Tryz.prog.cellsOf 57 = 1:=by kernel_rfl
 rw [hc] at hl
 match xs,hlen with
 | [y0,y1,y2,y3,y4,y5],_ =>
  have g0:=hf 0 f0 rfl
  have g1:=hf 1 f1 rfl
  have g2:=hf 2 f2 rfl
  have g3:=hf 3 f3 rfl
  have g4:=hf 4 f4 rfl
  have g5:=hf 5 f5 rfl
  rw [o0,t0,hi] at g0
  rw [o1,t1,hi] at g1
  rw [o2,t2,hi] at g2
  rw [o3,t3,hs] at g3
  rw [o4,t4,hi] at g4
  rw [o5,t5,hi] at g5
  match cs,hl with
  | [c0,c1,c2,c3,c4,c5],_ =>
   obtain ⟨n0,h0,-,w0⟩:=DataW.trod_int Tryz.underlying3 g0
   obtain ⟨n1,h1,-,w1⟩:=DataW.trod_int Tryz.underlying3 g1
   obtain ⟨n2,h2,-,w2⟩:=DataW.trod_int Tryz.underlying3 g2
   obtain ⟨a,m,c,l,rfl,hr,hz,hlc⟩:=in_sliAv (v:=c3) (by simpa using g3)
   obtain ⟨n4,h4,-,w4⟩:=DataW.trod_int Tryz.underlying3 g4
   obtain ⟨n5,h5,-,w5⟩:=DataW.trod_int Tryz.underlying3 g5
   simp at h0 h1 h2 h4 h5
   subst h0;subst h1;subst h2;subst h4;subst h5
   exact ⟨⟨n0,n1,n2,l,n4,n5⟩,a,m,c,rfl,hr,hz,hlc,w0,w1,w2,w4,w5⟩
open Go.RowKit Go.Joins Go.Deep
theorem in_sliGt {H:Type} {enc:TypeId × Value→H} {w:World} {n:Nat} {v:Value} {t e:TypeId} {y:DataW H × List MemPlace} (ht : Tryz.prog.underlying t=some (.slice e))
  (h:DataW.trod enc Tryz.prog w 0 (fun _=>true) true n t [v]=some y):∃ a m c,v = .slice a m c∧DataW.Trod enc Tryz.prog w 0 (fun _=>true) true t (.slice a m c) y.1 y.2:=by
 have hv:∃ a m c,v = .slice a m c:=by
  rcases Go.Deep.open_slice ht h with ⟨hcs,-⟩ | ⟨x,l,c,m,n,D,Pl,hcs,-⟩
  · exact ⟨_,_,_,by simpa using hcs⟩
  · exact ⟨_,_,_,by simpa using hcs⟩
 obtain ⟨a,m,c,rfl⟩:=hv
 exact ⟨a,m,c,rfl,n,by simpa [Value.cells] using h⟩
theorem in_rowBs {H:Type} {enc:TypeId × Value→H} {w:World} {a:Option Addr} {len cap:Nat} {d:DataW H} {ps:List MemPlace}
  (h:DataW.Trod enc Tryz.prog w 0 (fun _=>true) true 54 (.slice a len cap) d ps):∃ L,RowBs w a len L∧(a=none→cap=0)∧len≤cap:=by
 obtain ⟨L,⟨h1,h2,h3,h4⟩,h5,h6⟩:=in_rowG (R:=IsBk) (size:=6) noBlk Tryz.underlying54 (by kernel_rfl) (by decide) in_cellsBk h
 refine ⟨L,⟨h1,h2,fun h0=>?_,fun x hx=>?_⟩,h5,h6⟩
 · obtain ⟨b,off,he,hc⟩:=h3 h0
   refine ⟨b,off,he,fun i hi=>?_⟩
   obtain ⟨cs,-,g2,a',n',c',g3,r3,z3,l3,-⟩:=hc i hi
   subst g3
   exact ⟨g2 0 (by decide),g2 1 (by decide),g2 2 (by decide),⟨_,g2 3 (by decide),a',n',c',rfl,r3,z3,l3⟩,g2 4 (by decide),g2 5 (by decide)⟩
 · obtain ⟨cs,_,_,_,-,-,-,-,w0⟩:=h4 x hx
   exact w0
theorem in_fieldsTr:∃ f0 f1 f2:Field,Tryz.prog.underlying 56 = some (.struct #[f0,f1,f2])∧f0.type = 53∧f1.type = 54∧f2.type = 25∧oneCellFields Tryz.prog #[f0,f1,f2]=true :=
 ⟨_,_,_,Tryz.underlying56,rfl,rfl,rfl,by kernel_rfl⟩
set_option maxRecDepth 100000 in
theorem in_treV {H:Type} {enc:TypeId × Value→H} {w:World} {r:Reach} {b0:Nat} {v:Value} {d:DataW H} {ps:List MemPlace} (hv:Value.okWide Tryz.prog w r b0 56 v)
  (h:DataW.Trod enc Tryz.prog w 0 (fun _=>true) true 56 v d ps):∃ a1 n1 c1 a2 n2 c2 a3 n3 c3 t,v = .agg #[.slice a1 n1 c1,.slice a2 n2 c2,.slice a3 n3 c3]∧TreRd w (.slice a1 n1 c1) (.slice a2 n2 c2) (.slice a3 n3 c3) t:=by
 obtain ⟨f0,f1,f2,hu,t0,t1,t2,hone⟩:=in_fieldsTr
 obtain ⟨v0,v1,v2,y0,y1,y2,n,rfl,-,-,g0,g1,g2⟩:=open_agg3 hu hone (by kernel_rfl) hv h
 rw [t0] at g0
 rw [t1] at g1
 rw [t2] at g2
 obtain ⟨a1,n1,c1,rfl,T1⟩:=in_sliGt Tryz.underlying53 g0
 obtain ⟨a2,n2,c2,rfl,T2⟩:=in_sliGt Tryz.underlying54 g1
 obtain ⟨a3,n3,c3,rfl,T3⟩:=in_sliGt Tryz.underlying25 g2
 obtain ⟨l1,r1,z1,k1⟩:=in_rowE T1
 obtain ⟨l2,r2,z2,k2⟩:=in_rowBs T2
 obtain ⟨l3,r3,z3,k3⟩:=in_rowI T3
 exact ⟨a1,n1,c1,a2,n2,c2,a3,n3,c3,⟨l1,l2,l3⟩,rfl,⟨a1,n1,c1,rfl,r1,z1,k1⟩,⟨a2,n2,c2,rfl,r2,z2,k2⟩,a3,n3,c3,rfl,r3,z3,k3⟩
def IsCs (w:World) (cs:List Value) (x:Ver):Prop:=cs=celV x∧WfV x
theorem in_fieldsCs:∃ f0 f1 f2:Field,Tryz.prog.underlying 127 = some (.struct #[f0,f1,f2])∧f0.offset=0∧f1.offset=1∧f2.offset=2∧f0.type = 3∧f1.type = 3∧f2.type = 3∧oneCellFields Tryz.prog #[f0,f1,f2]=true :=
 ⟨_,_,_,Tryz.underlying127,rfl,rfl,rfl,rfl,rfl,rfl,by kernel_rfl⟩
theorem in_cellsCs {H:Type} {enc:TypeId × Value→H} {w:World} (n:Nat) (cs:List Value) (y:DataW H × List MemPlace)
  (h:DataW.trod enc Tryz.prog w 0 (fun _=>true) true n 127 cs=some y):∃ x,IsCs w cs x:=by
 obtain ⟨f0,f1,f2,hu,o0,o1,o2,t0,t1,t2,-⟩:=in_fieldsCs
 obtain ⟨y0,y1,y2,m,-,hl,g0,g1,g2⟩:=trod_struct3 hu h
 have hc : Tryz.prog.cellsOf 127 = 3:=by kernel_rfl
 have hi : Tryz.prog.cellsOf 3 = 1:=by kernel_rfl
 rw [hc] at hl
 rw [o0,t0,hi] at g0
 rw [o1,t1,hi] at g1
 rw [o2,t2,hi] at g2
 match cs,hl with
 | [c0,c1,c2],_ =>
  obtain ⟨n0,h0,-,w0⟩:=DataW.trod_int Tryz.underlying3 g0
  obtain ⟨n1,h1,-,w1⟩:=DataW.trod_int Tryz.underlying3 g1
  obtain ⟨n2,h2,-,w2⟩:=DataW.trod_int Tryz.underlying3 g2
  simp at h0 h1 h2
  subst h0;subst h1;subst h2
  exact ⟨⟨n0,n1,n2⟩,rfl,w0,w1,w2⟩
theorem in_rowCs {H:Type} {enc:TypeId × Value→H} {w:World} {a:Option Addr} {len cap:Nat} {d:DataW H} {ps:List MemPlace}
  (h:DataW.Trod enc Tryz.prog w 0 (fun _=>true) true 66 (.slice a len cap) d ps):∃ L,RowV w a len L∧(a=none→cap=0)∧len≤cap:=by
 obtain ⟨L,⟨h1,h2,h3,h4⟩,h5,h6⟩:=in_rowG (R:=IsCs) (size:=3) noV Tryz.underlying66 (by kernel_rfl) (by decide) in_cellsCs h
 refine ⟨L,⟨h1,h2,fun h0=>?_,fun x hx=>?_⟩,h5,h6⟩
 · obtain ⟨b,off,he,hc⟩:=h3 h0
   refine ⟨b,off,he,fun i hi=>?_⟩
   obtain ⟨cs,-,g2,g3,-⟩:=hc i hi
   subst g3
   exact ⟨g2 0 (by decide),g2 1 (by decide),g2 2 (by decide)⟩
 · obtain ⟨cs,hc⟩:=h4 x hx
   exact hc.2
end Go.Proofs.YtpnjgmgmakmgeaaGreat

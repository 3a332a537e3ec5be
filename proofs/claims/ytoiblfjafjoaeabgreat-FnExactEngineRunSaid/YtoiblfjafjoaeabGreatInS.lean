/- Texts of ours that stand together: InV, InL, InFs, InSl -/
import Derived.Test.YtoiblfjafjoaeabGreatActs
import Derived.Test.YtoiblfjafjoaeabGreatVerA
import Derived.Test.YtoiblfjafjoaeabGreatConv
import Derived.Test.YtoiblfjafjoaeabGreatLay
import Derived.Test.YtoiblfjafjoaeabGreatEff
import Derived.Deep.Strs
import Derived.Test.YtoiblfjafjoaeabGreatEngM
/- What comes in: a slice of the laws' own Version,opened (gen9/structs.py). -/
namespace Go.Proofs.YtoiblfjafjoaeabGreat
open Go.RowKit Go.Joins Go.Deep
set_option linter.unusedVariables false
def IsV (w:World) (cs:List Value) (x:Ver):Prop:=cs=celV x∧WfV x
theorem in_fieldsV:∃ f0 f1 f2:Field,Tryz.prog.underlying 130 = some (.struct #[f0,f1,f2])∧f0.offset=0∧f1.offset=1∧f2.offset=2∧f0.type = 3∧f1.type = 3∧f2.type = 3∧oneCellFields Tryz.prog #[f0,f1,f2]=true :=
 ⟨_,_,_,Tryz.underlying130,rfl,rfl,rfl,rfl,rfl,rfl,by kernel_rfl⟩
theorem in_cellsV {H:Type} {enc:TypeId × Value→H} {w:World} (n:Nat) (cs:List Value) (y:DataW H × List MemPlace)
  (h:DataW.trod enc Tryz.prog w 0 (fun _=>true) true n 130 cs=some y):∃ x,IsV w cs x:=by
 obtain ⟨f0,f1,f2,hu,o0,o1,o2,t0,t1,t2,-⟩:=in_fieldsV
 obtain ⟨y0,y1,y2,m,-,hl,g0,g1,g2⟩:=trod_struct3 hu h
 have hc : Tryz.prog.cellsOf 130 = 3:=by kernel_rfl
 have hi : Tryz.prog.cellsOf 3 = 1:=by kernel_rfl
 rw [hc] at hl
 rw [o0,t0,hi] at g0
 rw [o1,t1,hi] at g1
 rw [o2,t2,hi] at g2
 match cs,hl with
 | [c0,c1,c2],_ =>
  obtain ⟨n0,h0,-,w0⟩:=DataW.trod_int Tryz.underlying3 g0
  obtain ⟨n1,h1,-,w1⟩:=DataW.trod_int Tryz.underlying3 g1
  obtain ⟨n2,h2,-,w2⟩:=DataW.trod_int Tryz.underlying3 g2
  simp at h0 h1 h2
  subst h0;subst h1;subst h2
  exact ⟨⟨n0,n1,n2⟩,rfl,w0,w1,w2⟩
theorem in_rowV {H:Type} {enc:TypeId × Value→H} {w:World} {a:Option Addr} {len cap:Nat} {d:DataW H} {ps:List MemPlace}
  (h:DataW.Trod enc Tryz.prog w 0 (fun _=>true) true 24 (.slice a len cap) d ps):∃ L,RowV w a len L∧(a=none→cap=0)∧len≤cap:=by
 obtain ⟨L,⟨h1,h2,h3,h4⟩,h5,h6⟩:=in_rowG (R:=IsV) (size:=3) noV Tryz.underlying24 (by kernel_rfl) (by decide) in_cellsV h
 refine ⟨L,⟨h1,h2,fun h0=>?_,fun x hx=>?_⟩,h5,h6⟩
 · obtain ⟨b,off,he,hc⟩:=h3 h0
   refine ⟨b,off,he,fun i hi=>?_⟩
   obtain ⟨cs,-,g2,g3,-⟩:=hc i hi
   subst g3
   exact ⟨g2 0 (by decide),g2 1 (by decide),g2 2 (by decide)⟩
 · obtain ⟨cs,hc⟩:=h4 x hx
   exact hc.2
end Go.Proofs.YtoiblfjafjoaeabGreat
/- What comes in: a slice of layers of the laws' own type,opened. -/
namespace Go.Proofs.YtoiblfjafjoaeabGreat
open Go.RowKit
theorem in_sliE {H:Type} {enc:TypeId × Value→H} {w:World} {v:Value} {n:Nat} {d:DataW H × List MemPlace}
  (h:DataW.trod enc Tryz.prog w 0 (fun _=>true) true n 22 [v]=some d):∃ l,SliE w v l:=by
 have key:∃ f0 f1:Field,Tryz.prog.underlying 126 = some (.struct #[f0,f1])∧f0.offset=0∧f1.offset=1∧f0.type = 3∧f1.type = 3:=⟨_,_,Tryz.underlying126,rfl,rfl,rfl,rfl⟩
 obtain ⟨f0,f1,hu,o0,o1,t0,t1⟩:=key
 have hv:∃ a len cap,v = .slice a len cap:=by
  rcases Go.Deep.open_slice_pairs Tryz.underlying22 hu (by kernel_rfl) o0 o1 (by rw [t0];kernel_rfl) (by rw [t1];kernel_rfl) h with ⟨hcs,-⟩ | ⟨x,l,c,m,n,V0,V1,D0,D1,P0,P1,hcs,-⟩
  · simp at hcs;exact ⟨_,_,_,hcs⟩
  · simp at hcs;exact ⟨_,_,_,hcs⟩
 obtain ⟨a,len,cap,rfl⟩:=hv
 obtain ⟨l,h1,h2,h3⟩:=in_rowE (d:=d.1) (ps:=d.2) (cap:=cap) ⟨n,by simpa [Value.cells] using h⟩
 exact ⟨l,a,len,cap,rfl,h1,h2,h3⟩
end Go.Proofs.YtoiblfjafjoaeabGreat
/- What comes in: a slice of effects of the laws' own type,opened. -/
namespace Go.Proofs.YtoiblfjafjoaeabGreat
open Go.RowKit Go.Joins Go.Deep
set_option linter.unusedVariables false
def IsF (w:World) (cs:List Value) (x:Eff):Prop:=∃ y z,cs=[.bool x.done,y,z]∧SliE w y x.rds∧SliE w z x.wrs
theorem in_fieldsFs:∃ f0 f1 f2:Field,Tryz.prog.underlying 113 = some (.struct #[f0,f1,f2])∧f0.offset=0∧f1.offset=1∧f2.offset=2∧f0.type = 4∧f1.type = 22∧f2.type = 22 :=
 ⟨_,_,_,Tryz.underlying113,rfl,rfl,rfl,rfl,rfl,rfl⟩
theorem in_cellsF {H:Type} {enc:TypeId × Value→H} {w:World} (n:Nat) (cs:List Value) (y:DataW H × List MemPlace)
  (h:DataW.trod enc Tryz.prog w 0 (fun _=>true) true n 113 cs=some y):∃ x,IsF w cs x:=by
 obtain ⟨f0,f1,f2,hu,o0,o1,o2,t0,t1,t2⟩:=in_fieldsFs
 obtain ⟨y0,y1,y2,m,-,hl,g0,g1,g2⟩:=trod_struct3 hu h
 have hc : Tryz.prog.cellsOf 113 = 3:=by kernel_rfl
 have hb : Tryz.prog.cellsOf 4 = 1:=by kernel_rfl
 have hs : Tryz.prog.cellsOf 22 = 1:=by kernel_rfl
 rw [hc] at hl
 rw [o0,t0,hb] at g0
 rw [o1,t1,hs] at g1
 rw [o2,t2,hs] at g2
 match cs,hl with
 | [c0,c1,c2],_ =>
  obtain ⟨dn,h0,-⟩:=DataW.trod_bool Tryz.underlying4 g0
  obtain ⟨R,hR⟩:=in_sliE (v:=c1) (by simpa using g1)
  obtain ⟨W,hW⟩:=in_sliE (v:=c2) (by simpa using g2)
  simp at h0
  subst h0
  exact ⟨⟨dn,R,W⟩,c1,c2,rfl,hR,hW⟩
end Go.Proofs.YtoiblfjafjoaeabGreat
/- What comes in: an engine of the laws' own type,by value,opened. -/
namespace Go.Proofs.YtoiblfjafjoaeabGreat
open Go.RowKit Go.Joins Go.Deep
set_option linter.unusedVariables false
theorem in_sliG {H:Type} {enc:TypeId × Value→H} {w:World} {n:Nat} {v:Value} {t e:TypeId} {y:DataW H × List MemPlace} (ht : Tryz.prog.underlying t=some (.slice e))
  (h:DataW.trod enc Tryz.prog w 0 (fun _=>true) true n t [v]=some y):∃ a m c,v = .slice a m c∧DataW.Trod enc Tryz.prog w 0 (fun _=>true) true t (.slice a m c) y.1 y.2:=by
 have hv:∃ a m c,v = .slice a m c:=by
  rcases Go.Deep.open_slice ht h with ⟨hcs,-⟩ | ⟨x,l,c,m,n,D,Pl,hcs,-⟩
  · exact ⟨_,_,_,by simpa using hcs⟩
  · exact ⟨_,_,_,by simpa using hcs⟩
 obtain ⟨a,m,c,rfl⟩:=hv
 exact ⟨a,m,c,rfl,n,by simpa [Value.cells] using h⟩
theorem in_sliI {H:Type} {enc:TypeId × Value→H} {w:World} {n:Nat} {v:Value} {y:DataW H × List MemPlace} (h:DataW.trod enc Tryz.prog w 0 (fun _=>true) true n 43 [v]=some y):∃ l,SliI w v l:=by
 obtain ⟨a,m,c,rfl,hT⟩:=in_sliG Tryz.underlying43 h
 obtain ⟨l,h1,h2,h3⟩:=in_rowI hT
 exact ⟨l,a,m,c,rfl,h1,h2,h3⟩
def IsSl (w:World) (cs:List Value) (s:Slt):Prop:=∃ x y z,cs=[.int .i64 s.stage,.int .i64 s.tries,x,.bool s.res.done,y,z]∧SliI w x s.from_∧SliE w y s.res.rds∧SliE w z s.res.wrs∧(Lit.int .i64 s.stage).wf=true∧(Lit.int .i64 s.tries).wf=true
theorem in_fieldsSl:∃ f0 f1 f2 f3:Field,Tryz.prog.underlying 115 = some (.struct #[f0,f1,f2,f3])∧f0.offset=0∧f1.offset=1∧f2.offset=2∧f3.offset=3∧f0.type = 3∧f1.type = 3∧f2.type = 43∧f3.type = 113 :=
 ⟨_,_,_,_,Tryz.underlying115,rfl,rfl,rfl,rfl,rfl,rfl,rfl,rfl⟩
theorem in_cellsSl {H:Type} {enc:TypeId × Value→H} {w:World} (n:Nat) (cs:List Value) (y:DataW H × List MemPlace)
  (h:DataW.trod enc Tryz.prog w 0 (fun _=>true) true n 115 cs=some y):∃ x,IsSl w cs x:=by
 obtain ⟨f0,f1,f2,f3,hu,o0,o1,o2,o3,t0,t1,t2,t3⟩:=in_fieldsSl
 obtain ⟨y0,y1,y2,y3,m,-,hl,g0,g1,g2,g3⟩:=trod_struct4 hu h
 have hc : Tryz.prog.cellsOf 115 = 6:=by kernel_rfl
 have hi : Tryz.prog.cellsOf 3 = 1:=by kernel_rfl
 have hs : Tryz.prog.cellsOf 43 = 1:=by kernel_rfl
 have he : Tryz.prog.cellsOf 113 = 3:=by kernel_rfl
 rw [hc] at hl
 rw [o0,t0,hi] at g0
 rw [o1,t1,hi] at g1
 rw [o2,t2,hs] at g2
 rw [o3,t3,he] at g3
 match cs,hl with
 | [c0,c1,c2,c3,c4,c5],_ =>
  obtain ⟨n0,h0,-,w0⟩:=DataW.trod_int Tryz.underlying3 g0
  obtain ⟨n1,h1,-,w1⟩:=DataW.trod_int Tryz.underlying3 g1
  obtain ⟨l,hl2⟩:=in_sliI (v:=c2) (by simpa using g2)
  obtain ⟨x,p,q,hx,hR,hW⟩:=in_cellsF _ [c3,c4,c5] _ (by simpa using g3)
  simp at h0 h1 hx
  obtain ⟨rfl,rfl,rfl⟩:=hx
  subst h0;subst h1
  exact ⟨⟨n0,n1,l,x⟩,c2,c4,c5,rfl,hl2,hR,hW,w0,w1⟩
theorem in_rowSl {H:Type} {enc:TypeId × Value→H} {w:World} {a:Option Addr} {len cap:Nat} {d:DataW H} {ps:List MemPlace}
  (h:DataW.Trod enc Tryz.prog w 0 (fun _=>true) true 25 (.slice a len cap) d ps):∃ L,RowSl w a len L∧(a=none→cap=0)∧len≤cap:=by
 obtain ⟨L,⟨h1,h2,h3,h4⟩,h5,h6⟩:=in_rowG (R:=IsSl) (size:=6) noSlt Tryz.underlying25 (by kernel_rfl) (by decide) in_cellsSl h
 refine ⟨L,⟨h1,h2,fun h0=>?_,fun x hx=>?_⟩,h5,h6⟩
 · obtain ⟨b,off,he,hc⟩:=h3 h0
   refine ⟨b,off,he,fun i hi=>?_⟩
   obtain ⟨cs,-,g2,x,y,z,g3,s1,s2,s3,-,-⟩:=hc i hi
   subst g3
   exact ⟨g2 0 (by decide),g2 1 (by decide),⟨x,g2 2 (by decide),s1⟩,g2 3 (by decide),⟨y,g2 4 (by decide),s2⟩,z,g2 5 (by decide),s3⟩
 · obtain ⟨cs,_,_,_,-,-,-,-,w0,w1⟩:=h4 x hx
   exact ⟨w0,w1⟩
theorem in_fieldsEng:∃ f0 f1 f2 f3:Field,Tryz.prog.underlying 27 = some (.struct #[f0,f1,f2,f3])∧f0.type = 22∧f1.type = 23∧f2.type = 24∧f3.type = 25∧oneCellFields Tryz.prog #[f0,f1,f2,f3]=true :=
 ⟨_,_,_,_,Tryz.underlying27,rfl,rfl,rfl,rfl,by kernel_rfl⟩
set_option maxRecDepth 100000 in
theorem in_engV {H:Type} {enc:TypeId × Value→H} {w:World} {r:Reach} {b0:Nat} {v:Value} {d:DataW H} {ps:List MemPlace} (hv:Value.okWide Tryz.prog w r b0 27 v)
  (h:DataW.Trod enc Tryz.prog w 0 (fun _=>true) true 27 v d ps):∃ a1 n1 c1 a2 n2 c2 a3 n3 c3 a4 n4 c4 e,v = .agg #[.slice a1 n1 c1,.slice a2 n2 c2,.slice a3 n3 c3,.slice a4 n4 c4]∧EngRd w (.slice a1 n1 c1) (.slice a2 n2 c2) (.slice a3 n3 c3) (.slice a4 n4 c4) e:=by
 obtain ⟨f0,f1,f2,f3,hu,t0,t1,t2,t3,hone⟩:=in_fieldsEng
 obtain ⟨v0,v1,v2,v3,y0,y1,y2,y3,n,rfl,-,-,g0,g1,g2,g3⟩:=open_agg4 hu hone (by kernel_rfl) hv h
 rw [t0] at g0
 rw [t1] at g1
 rw [t2] at g2
 rw [t3] at g3
 obtain ⟨a1,n1,c1,rfl,T1⟩:=in_sliG Tryz.underlying22 g0
 obtain ⟨a2,n2,c2,rfl,T2⟩:=in_sliG Tryz.underlying23 g1
 obtain ⟨a3,n3,c3,rfl,T3⟩:=in_sliG Tryz.underlying24 g2
 obtain ⟨a4,n4,c4,rfl,T4⟩:=in_sliG Tryz.underlying25 g3
 obtain ⟨l1,r1,z1,k1⟩:=in_rowE T1
 obtain ⟨l2,r2,z2,k2⟩:=in_rowA T2
 obtain ⟨l3,r3,z3,k3⟩:=in_rowV T3
 obtain ⟨l4,r4,z4,k4⟩:=in_rowSl T4
 exact ⟨a1,n1,c1,a2,n2,c2,a3,n3,c3,a4,n4,c4,⟨l1,l2,l3,l4⟩,rfl,⟨a1,n1,c1,rfl,r1,z1,k1⟩,⟨a2,n2,c2,rfl,r2,z2,k2⟩,⟨a3,n3,c3,rfl,r3,z3,k3⟩,a4,n4,c4,rfl,r4,z4,k4⟩
end Go.Proofs.YtoiblfjafjoaeabGreat

/- What comes in: a certificate of the laws' own type,by value,opened. -/
import Derived.Test.YtolhdacbahgfgaaGreatActs
import Derived.Test.YtolhdacbahgfgaaGreatInBt
import Derived.Test.YtolhdacbahgfgaaGreatCertMath
namespace Go.Proofs.YtolhdacbahgfgaaGreat
open Go.RowKit Go.Joins Go.Deep
set_option linter.unusedVariables false
def WfC (c:Crt):Prop:=(Lit.int .i64 c.sum).wf=true∧(Lit.int .i64 c.view).wf=true∧(Lit.int .i64 c.sig).wf=true
theorem in_fieldsCt:∃ f0 f1 f2:Field,Tryz.prog.underlying 28 = some (.struct #[f0,f1,f2])∧f0.type = 3∧f1.type = 3∧f2.type = 3∧oneCellFields Tryz.prog #[f0,f1,f2]=true :=
 ⟨_,_,_,Tryz.underlying28,rfl,rfl,rfl,by kernel_rfl⟩
set_option maxRecDepth 100000 in
theorem in_crtV {H:Type} {enc:TypeId × Value→H} {w:World} {r:Reach} {b0:Nat} {v:Value} {d:DataW H} {ps:List MemPlace} (hv:Value.okWide Tryz.prog w r b0 28 v)
  (h:DataW.Trod enc Tryz.prog w 0 (fun _=>true) true 28 v d ps):∃ p q r,v = .agg #[.int .i64 p,.int .i64 q,.int .i64 r]∧WfC ⟨p,q,r⟩:=by
 obtain ⟨f0,f1,f2,hu,t0,t1,t2,hone⟩:=in_fieldsCt
 obtain ⟨v0,v1,v2,y0,y1,y2,n,rfl,-,-,g0,g1,g2⟩:=open_agg3 hu hone (by kernel_rfl) hv h
 rw [t0] at g0
 rw [t1] at g1
 rw [t2] at g2
 obtain ⟨n0,h0,-,w0⟩:=DataW.trod_int Tryz.underlying3 g0
 obtain ⟨n1,h1,-,w1⟩:=DataW.trod_int Tryz.underlying3 g1
 obtain ⟨n2,h2,-,w2⟩:=DataW.trod_int Tryz.underlying3 g2
 simp at h0 h1 h2
 subst h0;subst h1;subst h2
 exact ⟨n0,n1,n2,rfl,w0,w1,w2⟩
end Go.Proofs.YtolhdacbahgfgaaGreat

/- What comes in: a slice of entries of the laws' own type,opened. -/
import Derived.Test.YtalohgmgkjfdbaaGreatCore
import Derived.Deep.SlicePairs
import Derived.ProofKit
namespace Go.Proofs.YtalohgmgkjfdbaaGreat
open Go.RowKit
theorem in_rowE {H:Type} {enc:TypeId × Value→H} {w:World} {a:Option Addr} {len cap:Nat} {d:DataW H} {ps:List MemPlace}
  (h:DataW.Trod enc Tryz.prog w 0 (fun _=>true) true 22 (.slice a len cap) d ps):∃ l,RowE w a len l∧(a=none→cap=0)∧len≤cap:=by
 obtain ⟨fuel,hf⟩:=h
 have key:∃ f0 f1:Field,Tryz.prog.underlying 83 = some (.struct #[f0,f1])∧f0.offset=0∧f1.offset=1∧f0.type = 3∧f1.type = 3:=⟨_,_,Tryz.underlying83,rfl,rfl,rfl,rfl⟩
 obtain ⟨f0,f1,hu,o0,o1,t0,t1⟩:=key
 rcases Go.Deep.open_slice_pairs Tryz.underlying22 hu (by kernel_rfl) o0 o1 (by rw [t0];kernel_rfl) (by rw [t1];kernel_rfl) hf with ⟨hcs,-⟩ | ⟨x,l,c,m,n,V0,V1,D0,D1,P0,P1,hcs,-,hl,hm,hmm,-,hx⟩
 · simp [Value.cells] at hcs
   obtain ⟨rfl,rfl,rfl⟩:=hcs
   exact ⟨[],rowE_empty _ _,fun _=>rfl,Nat.le_refl _⟩
 · simp [Value.cells] at hcs
   obtain ⟨rfl,rfl,rfl⟩:=hcs
   simp only [if_true] at hmm
   have hv:∀ i,i < m→∃ e:Ent,V0 i = .int .i64 e.1∧V1 i = .int .i64 e.2∧(Lit.int .i64 e.1).wf=true∧(Lit.int .i64 e.2).wf=true:=by
    intro i hi
    obtain ⟨-,-,g0,g1⟩:=hx i hi
    rw [t0] at g0
    rw [t1] at g1
    obtain ⟨n0,h0,-,w0⟩:=DataW.trod_int Tryz.underlying3 g0
    obtain ⟨n1,h1,-,w1⟩:=DataW.trod_int Tryz.underlying3 g1
    simp only [List.cons.injEq,and_true] at h0 h1
    exact ⟨(n0,n1),h0,h1,w0,w1⟩
   have hv':∀ i,∃ e:Ent,i < m→V0 i = .int .i64 e.1∧V1 i = .int .i64 e.2∧(Lit.int .i64 e.1).wf=true∧(Lit.int .i64 e.2).wf=true:=by
    intro i
    by_cases hi:i < m
    · obtain ⟨e,he⟩:=hv i hi;exact ⟨e,fun _=>he⟩
    · exact ⟨(0,0),fun h=>absurd h hi⟩
   obtain ⟨E,hE⟩:=Classical.axiomOfChoice hv'
   refine ⟨(List.range len).map E,⟨by simp,by omega,fun h0=>?_,?_⟩,fun h=>(by cases h),hl⟩
   · obtain ⟨b,off,spot⟩:=x
     have hs:=(hx 0 (by omega)).1
     have hspot:spot=none:=by
      have:=World.cell?_spot hs
      simpa [Addr.add] using this
     subst hspot
     refine ⟨b,off,rfl,fun i hi=>?_⟩
     obtain ⟨c0,c1,-,-⟩:=hx i (by omega)
     obtain ⟨e0,e1,-,-⟩:=hE i (by omega)
     have hg:((List.range len).map E).getD i (0,0)=E i:=by
      rw [List.getD_eq_getElem?_getD,List.getElem?_map,List.getElem?_range hi];rfl
     have ha:∀ j,(⟨b,off,none⟩:Addr).add j=⟨b,off+j,none⟩:=fun j=>by unfold Addr.add;split <;> simp_all
     rw [hg,← e0,← e1]
     rw [ha] at c0 c1
     exact ⟨c0,by rw [Nat.add_assoc];exact c1⟩
   · intro e he
     obtain ⟨i,hi,rfl⟩:=List.mem_map.1 he
     have:=hE i (by have:=List.mem_range.1 hi;omega)
     exact this.2.2
end Go.Proofs.YtalohgmgkjfdbaaGreat

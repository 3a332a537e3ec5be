/- The contracts of the draws of engines: l20Script. -/
import Derived.Test.YtaaffpolmecicabGreatDrawAc
import Derived.Deep.Cut
import Derived.Test.YtaaffpolmecicabGreatConv
namespace Go.Proofs.YtaaffpolmecicabGreat
open Go.RowKit
set_option linter.unusedVariables false
def DrawSc (w:World) (R P m c:Nat) (e:Ending) (w':World):Prop :=
 ∃ (v:Value) (l:List Int),e = .returned v∧Own w' w.heap.size 3 1 v l.length (l.map (Value.int .i64))∧(∀ x∈l,-1≤x∧x≤m+1)∧l.length≤16∧Rd w' R (P+c)∧Upd R w w'
def ScAt (w wr:World) (R P:Nat) (v:Value) (l:List Int):Prop:=Own wr w.heap.size 3 1 v l.length (l.map (Value.int .i64))∧Rd wr R P∧Upd R w wr
theorem ScAt.next {w wr w':World} {R P P':Nat} {v:Value} {l:List Int} (h:ScAt w wr R P v l) (hr:Rd w' R P') (hu:Upd R wr w') (hR:R < w.heap.size):ScAt w w' R P' v l :=
 ⟨h.1.upd hu hR,hr,h.2.2.trans hu⟩
theorem ScAt.app {w wr w':World} {R P:Nat} {v v':Value} {l:List Int} (h:ScAt w wr R P v l) (x:Int) (o:Obj) (ho:Own w' w.heap.size 3 1 v' (l.length+1) (l.map (Value.int .i64)++[.int .i64 x])) (hg:(wr.alloc o).grownBy w' v.ownBlock) (hR:R < w.heap.size):ScAt w w' R P v' (l++[x]):=by
 obtain ⟨h1,h3,h4⟩:=h
 refine ⟨?_,(h3.alloc _).grown hg (fun k hk=>by have:=(h1.1.lt k hk).1;omega),Upd.ofGrown (h4.alloc _) hg h1⟩
 rw [List.length_append,List.map_append];exact ho
set_option maxRecDepth 100000 in
set_option maxHeartbeats 4000000 in
theorem l20Script_any (R P m:Nat) (w:World) (h:Rd w R P) (hP:P≤600000) (hm:m≤1000) :
  Calls Tryz.prog 122 #[.pointer (some ⟨R,0,none⟩),.int .i64 m] w (DrawSc w R P m 40):=by
 have hRw:=h.lt
 have hnil:Own (w.alloc (.cells #[] 3)) w.heap.size 3 1 (.slice (some ⟨w.heap.size,0,none⟩) 0 0) 0 []:=own_lit 3 1 #[] 0 (Nat.le_refl _) (by simp) rfl
 go_enter Tryz.func122,Tryz.ntmps122
 go_wp2_with fail
 refine (pick_pos R P 16 _ (h.alloc _) (by omega) (by omega) (by omega)).mono ?_;rintro e w1 ⟨x1,rfl,hx0,hx1,hr1,hu1⟩
 have hA1:ScAt w w1 R (P+1) (.slice (some ⟨w.heap.size,0,none⟩) 0 0) []:=⟨hnil.upd hu1 hRw,hr1,((Upd.refl R w).alloc _).trans hu1⟩
 obtain ⟨k0,hk0⟩:∃ k0:Nat,x1=(k0:Int):=⟨x1.toNat,by omega⟩
 subst hk0
 clear hu1 hnil h hr1
 go_wp2_with fail
 go_loopw [5,6] (fun v i wr=>∃ (k:Nat) (l:List Int),k≤15∧i = .int .i64 k∧ScAt w wr R (P+1+2*(15 - k)) v l∧l.length≤15 - k∧Hid (∀ x∈l,-1≤x∧x≤(m:Int)+1)) (fun _ i _=>(intOf i).toNat)
 case atStart=>exact ⟨k0,[],by omega,rfl,⟨hA1.1,hA1.2.1.mono (by omega),hA1.2.2⟩,by simp,Lib.hid (fun x hx=>by cases hx)⟩
 case round =>
  obtain ⟨k,l,hk,rfl,hA,hlen,HB⟩:=hrel
  obtain ⟨g,cp,rfl,hgB,hgs⟩:=hA.1.slice
  clear hA1 hx0 hx1
  by_cases hlt:0 < k
  · have hA0:=hA
    clear hA
    rcases (by omega:(m:Int) < 1∨(m:Int)=1∨(1:Int) < (m:Int)) with hmm | hmm | hmm
    all_goals
     have hA:=hA0
     clear hA0
     have HMM:=Lib.hid hmm
     clear hmm
     try (have hmm1:(1:Int) < (m:Int):=HMM.out)
     try (have hmm1:¬ ((1:Int) < (m:Int)):=by have:=HMM.out;omega)
     try (have hmm2:¬ ((m:Int) < 1):=by have:=HMM.out;omega)
     try (have hmm2:(m:Int) < 1:=HMM.out)
     try (have hmm3:(m:Int)≤1:=by have:=HMM.out;omega)
     try (have hmm3:¬ ((m:Int)≤1):=by have:=HMM.out;omega)
     try (have hmm4:(1:Int)≤(m:Int):=by have:=HMM.out;omega)
     try (have hmm4:¬ ((1:Int)≤(m:Int)):=by have:=HMM.out;omega)
     go_wp2_with fail
     refine (pick_pos R _ _ _ hA.2.1 (by omega) (by omega) (by omega)).mono ?_;rintro e w2 ⟨x2,rfl,hy0,hy1,hr2,hu2⟩
     have hA2:=hA.next hr2 hu2 hRw
     clear hA hr2 hu2
     go_wp2_with fail
     refine (pick_pos R _ 24 _ hA2.2.1 (by omega) (by omega) (by omega)).mono ?_;rintro e w3 ⟨x3,rfl,hz0,hz1,hr3,hu3⟩
     have hA3:=hA2.next hr3 hu3 hRw
     have hs3:=hA3.2.2.size
     clear hA2 hr3 hu3
     obtain ⟨q,hq,hq0,hq1⟩:∃ q:Int,x3 / 23=q∧0≤q∧q≤1:=⟨x3 / 23,rfl,by omega,by omega⟩
     have hsub:IntKind.i64.wrap (x2 - q)=x2 - q:=by rw [IntKind.wrap_i64];omega
     go_wp2_with (at_builtin;refine wpList_append_one rfl _ _ 65 rfl w.heap.size 3 _ (.int .i64 0) 1 8 Tryz.underlying65 infoInt rfl (by decide) _ _ _ [.int .i64 (x2 - q)] (by rfl) hA3.1 (by rfl) rfl ?c11 ?c21 (by decide) ?c31 ?_)
     case c11=>intro u hu;simp at hu;subst hu;rfl
     case c21=>omega
     case c31=>exact hs3
     intro v5 w5 ho5 hg5
     have HA:=Lib.hid (hA3.app (x2 - q) _ ho5 hg5 hRw)
     have HB2:=Lib.hid (show ∀ x∈l++[x2 - q],-1≤x∧x≤_+1 from fun x hx=>(List.mem_append.1 hx).elim (HB.out x) (fun hx=>by rw [List.mem_singleton.1 hx];omega))
     clear hA3 ho5 hg5 hs3
     go_wp2
     go_roundw
     case rel=>exact ⟨k - 1,l++[x2 - q],by omega,by congr 1;omega,⟨HA.out.1,HA.out.2.1.mono (by omega),HA.out.2.2⟩,by simp;omega,HB2⟩
     case measure=>simp [intOf];omega
  · obtain rfl:k=0:=by omega
    clear hlt
    have HA:=Lib.hid hA
    clear hA
    go_wp2
    go_ret
    exact ⟨_,l,rfl,HA.out.1,HB.out,by omega,HA.out.2.1.mono (by omega),HA.out.2.2⟩
end Go.Proofs.YtaaffpolmecicabGreat

/- Texts of ours that stand together: SpecEng8, SpecEng9, EngSl2, SpecStep, SpecRun, SpecStep2 -/
import Derived.Test.YtaaffpolmecicabGreatSpecE
import Derived.Test.YtaaffpolmecicabGreatRegT
import Derived.Test.YtaaffpolmecicabGreatStepG
import Derived.Deep.RegionHeld3
/- The contract of the model's l10Try. -/
namespace Go.Proofs.YtaaffpolmecicabGreat
open Go.RowKit
set_option linter.unusedVariables false
set_option linter.unusedSimpArgs false
def NewTry (w:World) (tE tI:TypeId) (p:Eff × List Int) (e:Ending) (w':World):Prop :=
 ∃ vr vw vf,e = .returned (.tuple #[.agg #[.bool p.1.done,vr,vw],vf])∧OwnR w' w.heap.size w'.heap.size [⟨vr,tE,2,p.1.rds.length,flatE p.1.rds⟩,⟨vw,tE,2,p.1.wrs.length,flatE p.1.wrs⟩,⟨vf,tI,1,p.2.length,p.2.map (Value.int .i64)⟩]∧WfE p.1.rds∧WfE p.1.wrs∧(∀ y∈p.2,(Lit.int .i64 y).wf=true)∧Below w.heap.size w w'
def wroteTo (S:List Ent) (V:List Ver) (L:List Int) (n:Nat) (k:Nat):List Int:=(L.take k).map fun key=>(readL S V key n).2
theorem wroteTo_next {S:List Ent} {V:List Ver} {L:List Int} {n k:Nat} (h:k < L.length):wroteTo S V L n (k+1)=wroteTo S V L n k++[(readL S V (L.getD k 0) n).2]:=by
 unfold wroteTo
 rw [List.take_succ_eq_append_getElem h,List.map_append,List.getD_eq_getElem?_getD,List.getElem?_eq_getElem h];rfl
theorem wroteTo_len {S:List Ent} {V:List Ver} {L:List Int} {n k:Nat} (h:k≤L.length):(wroteTo S V L n k).length=k:=by
 unfold wroteTo;rw [List.length_map,List.length_take];omega
def TryRw (w:World) (B:Nat) (tI:TypeId) (v:Value) (l:List Int) (g m c:Nat) (L:List Int):Prop :=
 OwnR w B w.heap.size [⟨v,tI,1,l.length,l.map (Value.int .i64)⟩,⟨.slice (some ⟨g,0,none⟩) m c,tI,1,m,L.map (Value.int .i64)⟩]
theorem results_eff2 {fn:Func} {p q:Tmp} (h:fn.results=#[.cell p 39,.tmp q]) (tmps:Array Value) {F:World} {Z:Nat} (hp:tmps.getD p undef = .pointer (some ⟨Z,0,none⟩)) {b:Bool} {v u:Value} (hc:EAt F Z b v u) (x:Value) (hq:tmps.getD q undef=x):(results fn tmps).run Tryz.prog F = .ok (.tuple #[.agg #[.bool b,v,u],x]) F:=by
 have hp':tmps[p]?.getD undef = .pointer (some ⟨Z,0,none⟩):=by simpa using hp
 have hq':tmps[q]?.getD undef=x:=by simpa using hq
 obtain ⟨⟨c0,c1,c2⟩,-⟩:=hc
 simp [results,h,hp',hq',asAddr,go_sem,c0,c1,c2]
set_option maxRecDepth 100000 in
set_option maxHeartbeats 4000000 in
theorem l10Try_spec (a1:Option Addr) (n1 c1:Nat) (S:List Ent) (kd sr ds am:Int) (a3:Option Addr) (n3 c3:Nat) (V:List Ver) (n:Nat) (w:World) (h1:RowE w a1 n1 S) (h3:RowV w a3 n3 V) (hS:storeB S=true) (hV:VOk V) (hA:actB ⟨kd,sr,ds,am⟩=true) :
  Calls Tryz.prog 167 #[.slice a1 n1 c1,.agg #[.int .i64 kd,.int .i64 sr,.int .i64 ds,.int .i64 am],.slice a3 n3 c3,.int .i64 n] w (NewTry w 43 3 (tryM S V ⟨kd,sr,ds,am⟩ n)):=by
 have HBD:=Lib.hid (fun key=>readL_bd (S:=S) (L:=V) hS hV key n)
 have HA:=Lib.hid hA
 clear hS hV hA
 have hb0:=((Below.refl w.heap.size w).alloc (Nat.le_refl _) (.cells #[.int .i64 kd,.int .i64 sr,.int .i64 ds,.int .i64 am] 87)).alloc (by simp) (.cells #[.bool false,.slice none 0 0,.slice none 0 0] 39)
 have hz0:=zAt_new (w.alloc (.cells #[.int .i64 kd,.int .i64 sr,.int .i64 ds,.int .i64 am] 87)) 39
 rw [show (w.alloc (.cells #[.int .i64 kd,.int .i64 sr,.int .i64 ds,.int .i64 am] 87)).heap.size=w.heap.size+1 by simp] at hz0
 have hsz:((w.alloc (.cells #[.int .i64 kd,.int .i64 sr,.int .i64 ds,.int .i64 am] 87)).alloc (.cells #[.bool false,.slice none 0 0,.slice none 0 0] 39)).heap.size=w.heap.size+2:=by simp
 obtain ⟨W1,hW1⟩:∃ W1,W1=((w.alloc (.cells #[.int .i64 kd,.int .i64 sr,.int .i64 ds,.int .i64 am] 87)).alloc (.cells #[.bool false,.slice none 0 0,.slice none 0 0] 39)):=⟨_,rfl⟩
 have q0:W1.cell? ⟨w.heap.size,0,none⟩=some (.int .i64 kd):=by rw [hW1];simp [go_sem]
 have q1:W1.cell? ⟨w.heap.size,1,none⟩=some (.int .i64 sr):=by rw [hW1];simp [go_sem]
 have q2:W1.cell? ⟨w.heap.size,2,none⟩=some (.int .i64 ds):=by rw [hW1];simp [go_sem]
 have q3:W1.cell? ⟨w.heap.size,3,none⟩=some (.int .i64 am):=by rw [hW1];simp [go_sem]
 have HW1:=Lib.hid hW1
 rw [← hW1] at hb0 hz0 hsz
 clear hW1
 have h1:=h1.below hb0
 have h3:=h3.below hb0
 have HSZ:=Lib.hid hsz
 clear hsz
 go_enter Tryz.func167,Tryz.ntmps167
 go_upto_region 1 with (fail)
 rw [← HW1.out]
 clear HW1
 go_wp2_with fail
 refine (l9Read_spec a1 n1 c1 S a3 n3 c3 V sr n _ h1 h3).mono ?_;rintro e1 w1 ⟨rfl,rfl⟩
 obtain ⟨F0,hF0⟩:∃ F0,F0=(readL S V sr n).1:=⟨_,rfl⟩
 have hFb:=(HBD.out sr).1
 have HF0:=Lib.hid hF0
 rw [← hF0] at hFb ⊢
 clear hF0
 go_wp2_with fail
 refine (l9Read_spec a1 n1 c1 S a3 n3 c3 V ds n _ h1 h3).mono ?_;rintro e1 w1 ⟨rfl,rfl⟩
 obtain ⟨T0,hT0⟩:∃ T0,T0=(readL S V ds n).1:=⟨_,rfl⟩
 have hTb:=(HBD.out ds).1
 have HT0:=Lib.hid hT0
 rw [← hT0] at hTb ⊢
 clear hT0
 go_upto_region 4 with (fail)
 have hOR:OwnR (W1.alloc (.cells #[] 3)) W1.heap.size (W1.heap.size+1) [⟨.slice (some ⟨W1.heap.size,0,none⟩) 0 0,3,1,0,[]⟩] :=
  (OwnR.nil _ _ _).cons _ (own_lit 3 1 #[] 0 (Nat.le_refl _) (by simp) rfl).1 (fun b hb=>by simp [blk] at hb;omega) (fun x hx=>by cases hx)
 have hb3:=(Below.refl W1.heap.size W1).alloc (Nat.le_refl _) (.cells #[] 3)
 have hs3:(W1.alloc (.cells #[] 3)).heap.size=W1.heap.size+1:=by simp
 obtain ⟨w3,hw3⟩:∃ w3,w3=W1.alloc (.cells #[] 3):=⟨_,rfl⟩
 rw [← hw3] at hOR hb3 hs3 ⊢
 clear hw3
 have zl0:w.heap.size < W1.heap.size:=by have:=HSZ.out;omega
 have zl1:w.heap.size+1 < W1.heap.size:=by have:=HSZ.out;omega
 have c0:=(hb3.cell (p:=⟨w.heap.size,0,none⟩) zl0).trans q0
 have c1':=(hb3.cell (p:=⟨w.heap.size,1,none⟩) zl0).trans q1
 have c2:=(hb3.cell (p:=⟨w.heap.size,2,none⟩) zl0).trans q2
 have c3':=(hb3.cell (p:=⟨w.heap.size,3,none⟩) zl0).trans q3
 go_wp2_with fail
 refine (actionReads_spec kd sr ds am _).mono ?_;rintro e1 w4 ⟨vv,rfl,ho4,hw4,hb4⟩
 have HM2:=Lib.hid (readsM_len ⟨kd,sr,ds,am⟩)
 obtain ⟨g2,c5,rfl,hg2,hg2',hri⟩:=rowI_of_own ho4 (by have:=HM2.out;omega) hw4
 have hOR4:=((hOR.below hb4).consNew (T':=w4.heap.size) ⟨_,_,_,_,_⟩ ho4.1 (by omega) (by omega) (Nat.le_refl _) (by have:=hb4.size;omega)).perm (List.Perm.swap _ _ _)
 have hbw:=hb3.trans (hb4.mono hb3.size)
 have HA2:=Lib.hid (show (tryM S V ⟨kd,sr,ds,am⟩ n)=(effK kd sr ds am F0 T0,(readsM ⟨kd,sr,ds,am⟩).map fun key=>(readL S V key n).2) by unfold tryM;rw [HF0.out,HT0.out])
 have hm2:=HM2.out
 obtain ⟨L,hL⟩:∃ L,L=readsM ⟨kd,sr,ds,am⟩:=⟨_,rfl⟩
 rw [← hL] at hOR4 hri hm2 hw4 HA2 ⊢
 clear hL HM2 hri ho4 hOR hb3 hb4
 obtain ⟨m,hm⟩:∃ m,m=L.length:=⟨_,rfl⟩
 have HLM:=Lib.hid hm.symm
 have hR4:TryRw w4 W1.heap.size 3 (.slice (some ⟨W1.heap.size,0,none⟩) 0 0) (wroteTo S V L n 0) g2 m c5 L:=by rw [hm];exact hOR4
 have HR4:=Lib.hid hR4
 rw [← hm] at hm2 ⊢
 clear hm hOR4 hR4
 have HWF:=Lib.hid hw4
 clear c0 c1' c2 c3' hw4 hg2 hg2'
 go_wp2_with fail
 go_loopw [14,16] (fun v i wr=>∃ k:Nat,k≤m∧i = .int .i64 k∧TryRw wr W1.heap.size 3 v (wroteTo S V L n k) g2 m c5 L∧Below W1.heap.size W1 wr) (fun _ i _=>m - (intOf i).toNat)
 case atStart=>exact ⟨0,Nat.zero_le _,rfl,HR4.out,hbw⟩
 case round =>
  obtain ⟨k,hk,rfl,hR,hb⟩:=hrel
  clear hbw HR4
  have hkl:=wroteTo_len (S:=S) (V:=V) (n:=n) (L:=L) (k:=k) (by rw [HLM.out];exact hk)
  by_cases hlt:k < m
  · have hRt:wr.ownsRow W1.heap.size 3 1 (.slice (some ⟨g2,0,none⟩) m c5) m (L.map (Value.int .i64)):=(OwnR.tail hR).head
    obtain ⟨ax,cx,he,hri⟩:=rowI_of_owns hRt (by unfold maxLen;omega) HWF.out
    simp only [Value.slice.injEq,true_and] at he
    obtain ⟨rfl,rfl⟩:=he
    obtain ⟨bx,ox,he,hcc⟩:=hri.2.2.1 (by omega)
    obtain ⟨rfl,rfl⟩:g2=bx∧ox=0:=by simp at he;exact ⟨he.1,he.2.symm⟩
    have hkey:=hcc k hlt
    simp only [Nat.zero_add] at hkey
    have h1k:=h1.below hb
    have h3k:=h3.below hb
    have HNX:Hid (wroteTo S V L n (k+1)=wroteTo S V L n k++[(readL S V (L.getD k 0) n).2]):=Lib.hid (wroteTo_next (by rw [HLM.out];exact hlt))
    have HR:=Lib.hid hR
    have HB:=Lib.hid hb
    clear hri hcc he hR hRt
    obtain ⟨key,hky⟩:∃ key,key=L.getD k 0:=⟨_,rfl⟩
    rw [← hky] at hkey HNX
    clear hky
    have i1:(0:Int)≤(k:Int):=by omega
    have i2:(k:Int) < (m:Int):=by omega
    go_wp2_with fail
    refine (l9Read_spec a1 n1 c1 S a3 n3 c3 V key n _ h1k h3k).mono ?_;rintro e1 w5 ⟨rfl,rfl⟩
    obtain ⟨z1,hz1⟩:∃ z1,z1=(readL S V key n).1:=⟨_,rfl⟩
    obtain ⟨z2,hz2⟩:∃ z2,z2=(readL S V key n).2:=⟨_,rfl⟩
    rw [← hz1,← hz2]
    rw [← hz2] at HNX
    clear hz1 hz2 h1k h3k hkey
    have hR:=HR.out
    unfold TryRw at hR
    rw [hkl] at hR
    have hsB:=hb.size
    clear hb
    go_wp2_with (at_builtin;refine wpList_append_R rfl _ _ 65 rfl W1.heap.size _ 3 _ (.int .i64 0) 1 8 1 Tryz.underlying65 infoIntC rfl (by decide) _ _ _ [.int .i64 z2] _ (by rfl) hR (by rfl) rfl ?c11 (by decide) ?c21 (by decide) ?c31 (Nat.le_refl _) ?_)
    case c11=>intro u hu;simp at hu;subst hu;rfl
    case c21=>omega
    case c31=>exact hsB
    intro v1 w6 hR6 _ hb6
    have HB6:=Lib.hid (HB.out.trans hb6)
    have HR6:Hid (TryRw w6 W1.heap.size 3 v1 (wroteTo S V L n (k+1)) g2 m c5 L):=Lib.hid (by
     unfold TryRw
     rw [HNX.out,List.map_append,List.length_append,hkl]
     exact hR6)
    clear hR6 hb6 hR HNX
    go_wp2_with fail
    go_roundw
    case rel=>exact ⟨k+1,by omega,by go_num,HR6.out,HB6.out⟩
    case measure=>simp [intOf];omega
  · obtain rfl:k=m:=by omega
    have hall:wroteTo S V L n k=L.map fun key=>(readL S V key n).2:=by unfold wroteTo;rw [← HLM.out,List.take_length]
    rw [hall] at hR hkl
    obtain ⟨U,hU⟩:∃ U,U=L.map fun key=>(readL S V key n).2:=⟨_,rfl⟩
    have hUw:∀ y∈U,(Lit.int .i64 y).wf=true:=fun y hy=>by
     rw [hU] at hy
     obtain ⟨key,-,rfl⟩:=List.mem_map.1 hy
     have:=(HBD.out key).2
     exact WalkArith.wf_i64 (by omega)
    have HA3:=HA2.out
    rw [← hU] at hR hkl HA3
    have HA3:=Lib.hid HA3
    have HUW:=Lib.hid hUw
    have HU:Hid (OwnR wr W1.heap.size wr.heap.size [⟨_,3,1,U.length,U.map (Value.int .i64)⟩]):=Lib.hid (OwnR.sub hR (List.Sublist.cons_cons _ (List.nil_sublist _)))
    have c0:=(hb.cell (p:=⟨w.heap.size,0,none⟩) zl0).trans q0
    have c1':=(hb.cell (p:=⟨w.heap.size,1,none⟩) zl0).trans q1
    have c2:=(hb.cell (p:=⟨w.heap.size,2,none⟩) zl0).trans q2
    have c3':=(hb.cell (p:=⟨w.heap.size,3,none⟩) zl0).trans q3
    have hzb:ZAt wr (w.heap.size+1):=hz0.below hb zl1
    have HB:=Lib.hid (hb0.trans (hb.mono hb0.size))
    have hsB:=hb.size
    clear hall hU hUw hR hkl hb q0 q1 q2 q3 hz0 hb0 h1 h3 HA2
    go_wp2_with fail
    refine (l6Run_spec kd sr ds am F0 T0 _ HA.out hFb hTb).mono ?_;rintro e1 w6 ⟨v6,rfl,ho6,hb6⟩
    obtain ⟨va,vb,rfl,ho7,ho8,hw7,hw8,hd6⟩:=ho6
    obtain ⟨X,hX⟩:∃ X,X=effK kd sr ds am F0 T0:=⟨_,rfl⟩
    rw [← hX] at ho7 ho8 hw7 hw8 HA3 ⊢
    clear hX
    have hz6:ZAt w6 (w.heap.size+1):=hzb.below hb6 (by omega)
    have hE1:OwnR w6 wr.heap.size w6.heap.size [⟨vb,43,2,X.wrs.length,flatE X.wrs⟩]:=(OwnR.nil _ _ _).cons _ ho8 (fun b hb=>by rw [owns_blk ho8] at hb;exact (ho8.lt b hb).2) (fun x hx=>by cases hx)
    have hE2:OwnR w6 wr.heap.size w6.heap.size [⟨va,43,2,X.rds.length,flatE X.rds⟩,⟨vb,43,2,X.wrs.length,flatE X.wrs⟩]:=hE1.cons _ ho7 (fun b hb=>by rw [owns_blk ho7] at hb;exact (ho7.lt b hb).2) (fun x hx=>by
     simp only [List.mem_singleton] at hx
     subst hx
     intro p hp hq
     rw [owns_blk ho7] at hp
     rw [owns_blk ho8] at hq
     exact hd6 p hp hq)
    have hE3:=((HU.out.below hb6).append hE2 (Nat.le_refl _) hsB hb6.size).perm List.perm_append_comm
    have HO:Hid (OwnR (((w6.setCell ⟨w.heap.size+1,0,none⟩ (.bool X.done)).setCell ⟨w.heap.size+1,1,none⟩ va).setCell ⟨w.heap.size+1,2,none⟩ vb) w.heap.size (((w6.setCell ⟨w.heap.size+1,0,none⟩ (.bool X.done)).setCell ⟨w.heap.size+1,1,none⟩ va).setCell ⟨w.heap.size+1,2,none⟩ vb).heap.size _):=Lib.hid ((OwnR.turn hE3 ((((Turn.refl (w.heap.size+1) (w.heap.size+1+1) w6).setCell (g:=w.heap.size+1) ⟨Nat.le_refl _,Nat.lt_succ_self _⟩ 0 (.bool X.done)).setCell (g:=w.heap.size+1) ⟨Nat.le_refl _,Nat.lt_succ_self _⟩ 1 va).setCell (g:=w.heap.size+1) ⟨Nat.le_refl _,Nat.lt_succ_self _⟩ 2 vb) (.inr (.inl (by omega)))).mono (by omega) (by simp [World.setCell]))
    have HB7:=Lib.hid (below_set3 (HB.out.trans (hb6.mono HB.out.size)) (Z:=w.heap.size+1) (by omega) 0 1 2 (.bool X.done) va vb)
    obtain ⟨pa,pn,pc,rfl⟩:=slice_form ho7
    obtain ⟨ra,rn,rc,rfl⟩:=slice_form ho8
    have hz6c:=hz6
    obtain ⟨⟨z0,z1,z2⟩,⟨f0,f1,f2⟩,-⟩:=hz6
    have HE:Hid (EAt (((w6.setCell ⟨w.heap.size+1,0,none⟩ (.bool X.done)).setCell ⟨w.heap.size+1,1,none⟩ (.slice pa pn pc)).setCell ⟨w.heap.size+1,2,none⟩ (.slice ra rn rc)) (w.heap.size+1) X.done (.slice pa pn pc) (.slice ra rn rc)):=Lib.hid (EAt.set2 (EAt.set1 (EAt.set0 (show EAt w6 (w.heap.size+1) false (.slice none 0 0) (.slice none 0 0) from hz6c) X.done) _) _)
    have HWX:=Lib.hid (And.intro hw7 hw8)
    clear hz6c
    clear ho7 ho8 hw7 hw8 hd6 hE1 hE2 hE3 hb6 hzb HU HB c0 c1' c2 c3'
    go_wp2_with fail
    refine bodyPost_ret (results_eff2 Tryz.results167 _ (by rfl) HE.out _ (by rfl)) rfl ⟨_,_,_,by rw [HA3.out],by rw [HA3.out];exact HO.out,by rw [HA3.out];exact HWX.out.1,by rw [HA3.out];exact HWX.out.2,by rw [HA3.out];exact HUW.out,HB7.out⟩
end Go.Proofs.YtaaffpolmecicabGreat
/- The contract of the model's l10Copy (gen10/speceng9.py). -/
namespace Go.Proofs.YtaaffpolmecicabGreat
open Go.RowKit
set_option linter.unusedVariables false
set_option linter.unusedSimpArgs false
theorem RowI.newsC {w:World} {a:Option Addr} {n:Nat} {l:List Int} (h:RowI w a n l):∀ ad,a=some ad→∀ j u,(l.map (Value.int .i64))[j]? = some u→w.cell? (ad.add j)=some u:=by
 intro ad he j u hu
 have hj:j < n:=by
  have:=(List.getElem?_eq_some_iff.1 hu).1
  rw [List.length_map,h.1] at this;exact this
 obtain ⟨b,off,he',hc⟩:=h.2.2.1 (by omega)
 rw [he] at he'
 cases he'
 rw [show (⟨b,off,none⟩:Addr).add j=⟨b,off+j,none⟩ by unfold Addr.add;split <;> simp_all]
 rw [hc j hj,List.getD_eq_getElem?_getD]
 rw [List.getElem?_map] at hu
 cases hl:l[j]? with
 | none=>rw [hl] at hu;cases hu
 | some y=>rw [hl] at hu;exact hu
theorem ints_oneC (l:List Int):∀ u∈l.map (Value.int .i64),u.oneCell'=true:=by
 intro u hu
 obtain ⟨x,-,rfl⟩:=List.mem_map.1 hu;rfl
theorem below_cs {B G o:Nat} {w w':World} {v:Value} (hb:Below B w w') (hG:G < B) (hc:w.cell? ⟨G,o,none⟩=some v):w'.cell? ⟨G,o,none⟩=some v:=(hb.cell (p:=⟨G,o,none⟩) hG).trans hc
structure CpJ (w0:World) (b:Nat) (u1 u2 u3 u4:Value) (e:Eng) (k:Nat) (ts:List (Value × Value × Value)) (W:World):Prop where
 tl:ts.length=k
 kl:k≤e.slots.length
 eg:EgAt W b u1 u2 u3 u4
 own:OwnR W w0.heap.size W.heap.size (engRs tEng u1 u2 u3 u4 ⟨e.base,e.list,e.vers,e.slots.take k⟩ ts)
 off:∀ r∈engRs tEng u1 u2 u3 u4 ⟨e.base,e.list,e.vers,e.slots.take k⟩ ts,blk r.v≠some b
 below:Below w0.heap.size w0 W
 ge:w0.heap.size≤b
theorem CpJ.grown {w0 W W':World} {b:Nat} {u1 u2 u3 u4:Value} {e:Eng} {k:Nat} {ts:List (Value × Value × Value)} (h:CpJ w0 b u1 u2 u3 u4 e k ts W) (hb:Below W.heap.size W W'):CpJ w0 b u1 u2 u3 u4 e k ts W' :=
 ⟨h.tl,h.kl,h.eg.below hb,(h.own.below hb).mono (Nat.le_refl _) hb.size,h.off,h.below.trans (hb.mono h.below.size),h.ge⟩
structure CpJ2 (w0:World) (b:Nat) (u1 u2 u3 u4 v4:Value) (e:Eng) (k:Nat) (ts:List (Value × Value × Value)) (s:Slt) (W:World):Prop where
 tl:ts.length=k
 kl:k≤e.slots.length
 eg:EgAt W b u1 u2 u3 u4
 nxt:∃ t,OwnR W w0.heap.size W.heap.size (engRs tEng u1 u2 u3 v4 ⟨e.base,e.list,e.vers,e.slots.take k++[s]⟩ (ts++[t]))∧∀ r∈engRs tEng u1 u2 u3 v4 ⟨e.base,e.list,e.vers,e.slots.take k++[s]⟩ (ts++[t]),blk r.v≠some b
 below:Below w0.heap.size w0 W
 ge:w0.heap.size≤b
theorem CpJ2.form {w0:World} {b:Nat} {u1 u2 u3 u4 v4:Value} {e:Eng} {k:Nat} {ts:List (Value × Value × Value)} {s:Slt} {W:World} (h:CpJ2 w0 b u1 u2 u3 u4 v4 e k ts s W):∃ a n c,v4 = .slice a n c:=by
 obtain ⟨t,h1,-⟩:=h.nxt
 exact slice_form (h1.own _ (List.mem_cons_of_mem _ (List.mem_cons_of_mem _ (List.mem_cons_of_mem _ List.mem_cons_self))))
def cpRs (u1 u2 u3:Value) (e:Eng) (k:Nat) (ts:List (Value × Value × Value)) (s:Slt) (t:Value × Value × Value):List Rw :=
 ⟨u1,43,2,e.base.length,flatE e.base⟩ :: ⟨u2,87,4,e.list.length,flatA e.list⟩ :: ⟨u3,73,3,e.vers.length,flatV e.vers⟩ :: (slsRs 3 43 (e.slots.take k) ts++slRs 3 43 s t)
theorem copy_app {w0 Wr W:World} {b:Nat} {u1 u2 u3 u4 v40 v43:Value} {e:Eng} {k nv:Nat} {ts:List (Value × Value × Value)} {s:Slt} (h:CpJ w0 b u1 u2 u3 u4 e k ts Wr) (hB:Below Wr.heap.size Wr W)
  (o40:W.ownsRow Wr.heap.size 3 1 v40 nv (s.from_.map (Value.int .i64))) (hF:OwnF W Wr.heap.size 43 v43 s.res) (hoff:∀ bb,blF v43 bb→blk v40≠some bb) (hnv:s.from_.length=nv) :
  ∃ va vb,v43 = .agg #[.bool s.res.done,va,vb]∧OwnR W w0.heap.size W.heap.size (⟨u4,75,6,k,slsCs (e.slots.take k) ts⟩ :: cpRs u1 u2 u3 e k ts s (v40,va,vb))∧∀ r∈slRs 3 43 s (v40,va,vb),∀ q,blk r.v=some q→q < Wr.heap.size→False:=by
 obtain ⟨va,vb,e43,oa,ob,-,-,hab⟩:=hF
 refine ⟨va,vb,e43,?_⟩
 have hold:=h.own.below hB
 have hlk:(e.slots.take k).length=k:=by rw [List.length_take];exact Nat.min_eq_left h.kl
 unfold engRs at hold
 simp only [hlk] at hold
 have hp:OwnR W w0.heap.size Wr.heap.size (⟨u4,75,6,k,slsCs (e.slots.take k) ts⟩ :: ⟨u1,43,2,e.base.length,flatE e.base⟩ :: ⟨u2,87,4,e.list.length,flatA e.list⟩ :: ⟨u3,73,3,e.vers.length,flatV e.vers⟩ :: slsRs 3 43 (e.slots.take k) ts) :=
  hold.perm (List.perm_middle (l₁:=[_,_,_]))
 have hnew:OwnR W Wr.heap.size W.heap.size (slRs 3 43 s (v40,va,vb)):=by
  subst hnv
  have n1:OwnR W Wr.heap.size W.heap.size [⟨vb,43,2,s.res.wrs.length,flatE s.res.wrs⟩]:=(OwnR.nil _ _ _).cons _ ob (fun p hp=>by rw [owns_blk ob] at hp;exact (ob.lt p hp).2) (fun x hx=>by cases hx)
  have n2:=n1.cons ⟨va,43,2,s.res.rds.length,flatE s.res.rds⟩ oa (fun p hp=>by rw [owns_blk oa] at hp;exact (oa.lt p hp).2) (fun x hx p hp hq=>by
   rw [List.mem_singleton] at hx
   subst hx
   simp only at hp hq
   rw [owns_blk oa] at hp
   rw [owns_blk ob] at hq
   exact hab p hp hq)
  exact n2.cons ⟨v40,3,1,s.from_.length,s.from_.map (Value.int .i64)⟩ o40 (fun p hp=>by rw [owns_blk o40] at hp;exact (o40.lt p hp).2) (fun x hx p hp hq=>by
   simp only at hp
   rcases List.mem_cons.1 hx with rfl | hx
   · exact hoff p ⟨_,_,_,e43,.inl hq⟩ hp
   · rw [List.mem_singleton] at hx
     subst hx
     exact hoff p ⟨_,_,_,e43,.inr hq⟩ hp)
 exact ⟨hp.append hnew (Nat.le_refl _) h.below.size hB.size,fun r hr q hq hlt=>by have:=(hnew.ge hr hq).1;omega⟩
theorem sls_snoc (L:List Slt) (ts:List (Value × Value × Value)) (hl:ts.length=L.length) (s:Slt) (t:Value × Value × Value):slsCs (L++[s]) (ts++[t])=slsCs L ts++slCs s t∧∀ tI tE,slsRs tI tE (L++[s]) (ts++[t])=slsRs tI tE L ts++slRs tI tE s t:=by
 unfold slsCs slsRs
 rw [List.zip_append hl.symm]
 exact ⟨by simp,fun _ _=>by simp⟩
theorem slCs_one {w:World} {B T:Nat} {u4 u1 u2 u3:Value} {e:Eng} {k:Nat} {ts:List (Value × Value × Value)} {s:Slt} {t:Value × Value × Value} {cs:List Value} (h:OwnR w B T (⟨u4,75,6,k,cs⟩ :: cpRs u1 u2 u3 e k ts s t)):∀ u∈slCs s t,u.oneCell'=true:=by
 obtain ⟨x,y,z⟩:=t
 have hm:∀ r∈slRs 3 43 s (x,y,z),w.ownsRow B r.e r.size r.v r.n r.cs:=fun r hr=>h.own r (List.mem_cons_of_mem _ (List.mem_cons_of_mem _ (List.mem_cons_of_mem _ (List.mem_cons_of_mem _ (List.mem_append_right _ hr)))))
 have h1:=owns_one (hm _ List.mem_cons_self)
 have h2:=owns_one (hm _ (List.mem_cons_of_mem _ List.mem_cons_self))
 have h3:=owns_one (hm _ (List.mem_cons_of_mem _ (List.mem_cons_of_mem _ List.mem_cons_self)))
 intro u hu
 simp only [slCs,List.mem_cons,List.not_mem_nil,or_false] at hu
 rcases hu with rfl | rfl | rfl | rfl | rfl | rfl
 · rfl
 · rfl
 · exact h1
 · rfl
 · exact h2
 · exact h3
theorem copy_app2 {w0 Wr W w15:World} {b:Nat} {u1 u2 u3 u4 v4:Value} {e:Eng} {k:Nat} {ts:List (Value × Value × Value)} {s:Slt} {t:Value × Value × Value} (h:CpJ w0 b u1 u2 u3 u4 e k ts Wr) (hB:Below Wr.heap.size Wr W)
  (hO:OwnR w15 w0.heap.size w15.heap.size (⟨v4,75,6,k+1,slsCs (e.slots.take k) ts++slCs s t⟩ :: cpRs u1 u2 u3 e k ts s t)) (hg:W.grownBy w15 u4.ownBlock) (hloc:v4.ownBlock=u4.ownBlock∨v4.ownBlock=some W.heap.size)
  (hold:OwnR W w0.heap.size W.heap.size (⟨u4,75,6,k,slsCs (e.slots.take k) ts⟩ :: cpRs u1 u2 u3 e k ts s t)) (hnw:∀ r∈slRs 3 43 s t,∀ q,blk r.v=some q→q < Wr.heap.size→False):CpJ2 w0 b u1 u2 u3 u4 v4 e k ts s w15:=by
 have hlk:(e.slots.take k).length=k:=by rw [List.length_take];exact Nat.min_eq_left h.kl
 have hbW:b < W.heap.size:=(h.eg.below hB).lt
 have hu4:blk u4≠some b:=h.off ⟨u4,75,6,(e.slots.take k).length,slsCs (e.slots.take k) ts⟩ (List.mem_cons_of_mem _ (List.mem_cons_of_mem _ (List.mem_cons_of_mem _ List.mem_cons_self)))
 have hu4o:=owns_blk hold.head
 have hv4o:=owns_blk hO.head
 simp only at hu4o hv4o
 obtain ⟨g1,g2⟩:=sls_snoc (e.slots.take k) ts (by rw [h.tl,hlk]) s t
 have heq:engRs tEng u1 u2 u3 v4 ⟨e.base,e.list,e.vers,e.slots.take k++[s]⟩ (ts++[t])=[⟨u1,43,2,e.base.length,flatE e.base⟩,⟨u2,87,4,e.list.length,flatA e.list⟩,⟨u3,73,3,e.vers.length,flatV e.vers⟩]++⟨v4,75,6,k+1,slsCs (e.slots.take k) ts++slCs s t⟩ :: (slsRs 3 43 (e.slots.take k) ts++slRs 3 43 s t):=by
  unfold engRs
  simp only [g1,g2,List.length_append,hlk,List.length_singleton]
  rfl
 have hBW:Below w0.heap.size w0 W:=h.below.trans (hB.mono h.below.size)
 have hnb:∀ r∈slRs 3 43 s t,blk r.v≠some b:=fun r hr hrb=>hnw r hr b hrb (h.eg.lt)
 refine ⟨h.tl,h.kl,(h.eg.below hB).grown hg (fun e=>hu4 (by rw [hu4o];exact e.symm)),⟨t,?_,?_⟩,hBW.grown hg hBW.size (fun q hq=>(hold.head.lt q hq).1),h.ge⟩
 · rw [heq]
   exact hO.perm (List.perm_middle (l₁:=[_,_,_])).symm
 · intro r hr hrb
   rw [heq] at hr
   have hr':r=⟨v4,75,6,k+1,slsCs (e.slots.take k) ts++slCs s t⟩∨r∈cpRs u1 u2 u3 e k ts s t:=by
    simp only [List.cons_append,List.nil_append,List.mem_cons,cpRs] at hr ⊢
    rcases hr with hr | hr | hr | hr | hr
    · exact .inr (.inl hr)
    · exact .inr (.inr (.inl hr))
    · exact .inr (.inr (.inr (.inl hr)))
    · exact .inl hr
    · exact .inr (.inr (.inr (.inr hr)))
   rcases hr' with rfl | hr'
   · simp only at hrb
     rw [hv4o] at hrb
     rcases hloc with e1 | e1
     · rw [e1,← hu4o] at hrb;exact hu4 hrb
     · rw [e1] at hrb;cases hrb;omega
   · -- a row of before,or a new one
     simp only [cpRs,List.mem_cons,List.mem_append] at hr'
     have hof:∀ r∈engRs tEng u1 u2 u3 u4 ⟨e.base,e.list,e.vers,e.slots.take k⟩ ts,blk r.v≠some b:=h.off
     unfold engRs at hof
     rcases hr' with hr' | hr' | hr' | hr' | hr'
     · exact hof r (by rw [hr'];exact List.mem_cons_self) hrb
     · exact hof r (by rw [hr'];exact List.mem_cons_of_mem _ List.mem_cons_self) hrb
     · exact hof r (by rw [hr'];exact List.mem_cons_of_mem _ (List.mem_cons_of_mem _ List.mem_cons_self)) hrb
     · exact hof r (List.mem_cons_of_mem _ (List.mem_cons_of_mem _ (List.mem_cons_of_mem _ (List.mem_cons_of_mem _ hr')))) hrb
     · exact hnb r hr' hrb
theorem CpJ2.store {w0 W:World} {b:Nat} {u1 u2 u3 u4 v4:Value} {e:Eng} {k:Nat} {ts:List (Value × Value × Value)} (h:CpJ2 w0 b u1 u2 u3 u4 v4 e k ts (e.slots.getD k noSlt) W) (hk:k < e.slots.length):∃ ts',CpJ w0 b u1 u2 u3 v4 e (k+1) ts' (W.setCell ⟨b,3,none⟩ v4):=by
 obtain ⟨t,h1,h2⟩:=h.nxt
 have ht:e.slots.take k++[e.slots.getD k noSlt]=e.slots.take (k+1):=by
  rw [List.take_succ_eq_append_getElem hk,List.getD_eq_getElem?_getD,List.getElem?_eq_getElem hk];rfl
 rw [ht] at h1 h2
 refine ⟨ts++[t],by rw [List.length_append,h.tl];rfl,hk,h.eg.set3 v4,?_,h2,h.below.setCell (by simp;exact h.ge) v4,h.ge⟩
 have:=h1.keep (w':=W.setCell ⟨b,3,none⟩ v4) fun r hr q hq=>Below.heap_setCell _ _ _ _ (fun e=>h2 r hr (by rw [hq];simp at e;rw [e]))
 simpa [World.setCell] using this
set_option maxRecDepth 100000 in
set_option maxHeartbeats 8000000 in
theorem l10Copy_spec (v1 v2 v3 v4:Value) (e:Eng) (w:World) (h:EngRd w v1 v2 v3 v4 e) (hm1:e.base.length≤4000000) (hm2:e.list.length≤4000000) (hm3:e.vers.length≤4000000) (hwf:EngWf e) :
  Calls Tryz.prog 123 #[.agg #[v1,v2,v3,v4]] w (NewEng w tEng e):=by
 obtain ⟨⟨a1,n1,c1,rfl,hr1,hz1,hcc1⟩,⟨a2,n2,c2,rfl,hr2,hz2,hcc2⟩,⟨a3,n3,c3,rfl,hr3,hz3,hcc3⟩,a4,n4,c4,rfl,hr4,hz4,hcc4⟩:=h
 have hb0:=((Below.refl w.heap.size w).alloc (Nat.le_refl _) (.cells #[.slice a1 n1 c1,.slice a2 n2 c2,.slice a3 n3 c3,.slice a4 n4 c4] 57)).alloc (by simp) (.cells #[.slice none 0 0,.slice none 0 0,.slice none 0 0,.slice none 0 0] 57)
 have hg0:=(egAt_new w 57 (.slice a1 n1 c1) (.slice a2 n2 c2) (.slice a3 n3 c3) (.slice a4 n4 c4)).below ((Below.refl _ _).alloc (Nat.le_refl _) (.cells #[.slice none 0 0,.slice none 0 0,.slice none 0 0,.slice none 0 0] 57))
 have hg1:=egAt_new (w.alloc (.cells #[.slice a1 n1 c1,.slice a2 n2 c2,.slice a3 n3 c3,.slice a4 n4 c4] 57)) 57 (.slice none 0 0) (.slice none 0 0) (.slice none 0 0) (.slice none 0 0)
 rw [World.size_alloc] at hg1
 have HL1:Hid ((flatE e.base).length=n1*2):=Lib.hid (by rw [flatE_len,hr1.1])
 have HL2:Hid ((flatA e.list).length=n2*4):=Lib.hid (by rw [flatA_len,hr2.1])
 have HL3:Hid ((flatV e.vers).length=n3*3):=Lib.hid (by rw [flatV_len,hr3.1])
 rw [hr1.1] at hm1
 rw [hr2.1] at hm2
 rw [hr3.1] at hm3
 have HN1:Hid (a1=none→n1=0∧c1=0):=Lib.hid (fun he=>by have:=hz1 he;omega)
 have HN2:Hid (a2=none→n2=0∧c2=0):=Lib.hid (fun he=>by have:=hz2 he;omega)
 have HN3:Hid (a3=none→n3=0∧c3=0):=Lib.hid (fun he=>by have:=hz3 he;omega)
 go_enter Tryz.func123,Tryz.ntmps123
 go_upto_region 1 with (fail)
 obtain ⟨w0,hw0⟩:∃ w0,w0=(w.alloc (.cells #[.slice a1 n1 c1,.slice a2 n2 c2,.slice a3 n3 c3,.slice a4 n4 c4] 57)).alloc (.cells #[.slice none 0 0,.slice none 0 0,.slice none 0 0,.slice none 0 0] 57):=⟨_,rfl⟩
 have hsz0:w.heap.size+2≤w0.heap.size:=by rw [hw0];simp
 rw [← hw0] at hb0 hg0 hg1 ⊢
 clear hw0
 have HC:=Lib.hid (fun (W:World) (hb:Below w0.heap.size w0 W)=>hg0.below hb)
 have HZ2:=Lib.hid (fun (W:World) (hb:Below w0.heap.size w0 W)=>hg1.below hb)
 have HL4:=Lib.hid hr4.1
 have HWF:=Lib.hid hwf
 have hzz0:w.heap.size+2≤w0.heap.size:=hsz0
 have HW1:=Lib.hid (fun (W:World) (hb:Below w0.heap.size w0 W)=>((hr1.below hb0).below hb).news)
 have HW2:=Lib.hid (fun (W:World) (hb:Below w0.heap.size w0 W)=>((hr2.below hb0).below hb).news)
 have HW3:=Lib.hid (fun (W:World) (hb:Below w0.heap.size w0 W)=>((hr3.below hb0).below hb).news)
 have h4w:=hr4.below hb0
 have HB0:=Lib.hid hb0
 clear hr1 hr2 hr3 hr4 hb0 hg0 hz1 hz2 hz3 hcc1 hcc2 hcc3
 refine wp_region_light (by kernel_rfl) (LastJ (fun lz fz wz=>Vals [(1,7,(.pointer (some ⟨w.heap.size,0,none⟩))),(2,8,(.slice a1 n1 c1)),(5,11,(.pointer (some ⟨w.heap.size,1,none⟩))),(6,12,(.slice a2 n2 c2)),(9,15,(.pointer (some ⟨w.heap.size,2,none⟩))),(10,16,(.slice a3 n3 c3))] lz fz∧Deps [(⟨12,18,[(3,9),(7,13),(11,17)],fun f=>.agg #[f 9,f 13,f 17,.slice none 0 0],fun f g h=>by simp at h;simp [h]⟩:DepT)] lz fz∧RowsJ w0 [(⟨0,some 3,6,43,2,0,[]⟩:RowT),(⟨3,none,9,43,2,n1,(flatE e.base)⟩:RowT),(⟨4,some 7,10,87,4,0,[]⟩:RowT),(⟨7,none,13,87,4,n2,(flatA e.list)⟩:RowT),(⟨8,some 11,14,73,3,0,[]⟩:RowT),(⟨11,none,17,73,3,n3,(flatV e.vers)⟩:RowT)] lz fz wz∧PtrJ w0 [(⟨0,some 3,6,43,2,0,[]⟩:RowT),(⟨3,none,9,43,2,n1,(flatE e.base)⟩:RowT),(⟨4,some 7,10,87,4,0,[]⟩:RowT),(⟨7,none,13,87,4,n2,(flatA e.list)⟩:RowT),(⟨8,some 11,14,73,3,0,[]⟩:RowT),(⟨11,none,17,73,3,n3,(flatV e.vers)⟩:RowT)] 13 3 (fun W b=>EgAt W b (.slice none 0 0) (.slice none 0 0) (.slice none 0 0) (.slice none 0 0)) lz fz wz) 14 15 (fun f wz=>∃ (w1:World) (u1 u2 u3:Value) (b:Nat),f 3 = .pointer (some ⟨b,0,none⟩)∧w0.heap.size≤b∧b < w1.heap.size∧OwnR w1 w0.heap.size w1.heap.size [⟨u1,43,2,n1,flatE e.base⟩,⟨u2,87,4,n2,flatA e.list⟩,⟨u3,73,3,n3,flatV e.vers⟩]∧blk u1≠some b∧blk u2≠some b∧blk u3≠some b∧Below w0.heap.size w0 w1∧EgAt w1 b (.slice none 0 0) (.slice none 0 0) (.slice none 0 0) (.slice none 0 0)∧wz=set4 w1 b u1 u2 u3 (.slice none 0 0))) 49 rfl [6,7,8,9,10,11,12,13,14,15,16,17,18,3] (by kernel_rfl) (by kernel_rfl) (by kernel_rfl) (fun f=>LastJ.nothing ⟨Vals.nothing _ f,Deps.nothing _ f,RowsJ.nothing _ _ f,PtrJ.nothing _ _ _ _ _ f _⟩) ?_ ?_
 · intro i hi
   rcases (by have:i < 15:=hi;omega:i=0∨i=1∨i=2∨i=3∨i=4∨i=5∨i=6∨i=7∨i=8∨i=9∨i=10∨i=11∨i=12∨i=13∨i=14) with rfl | rfl | rfl | rfl | rfl | rfl | rfl | rfl | rfl | rfl | rfl | rfl | rfl | rfl | rfl
   · clear hi;intro o ho lz fz w' A hJ hli ha hA K hK
     obtain ⟨hv,hd,hq,hp⟩:=hJ.now (i:=0) (by omega) hli
     obtain rfl:=Option.some.inj ho
     clear ho
     have hB:=hq.below
     rw [if_pos (by rfl)]
     go_simp
     exact hK _ _ (LastJ.step hJ 0 (by omega) hli (by decide) ⟨hv.step 0 6 _ (by simp),hd.step 0 6 _ hli (by simp [allR]),hq.new 0 6 _ ((Below.refl w'.heap.size w').alloc (Nat.le_refl _) _) (by simp;exact owns_lit0 _ _ _),hp.new (fun _ _ _ hb h=>EgAt.keep h hb) 0 6 _ (by decide) (by decide) ((Below.refl w'.heap.size w').alloc (Nat.le_refl _) _) (by simp;exact owns_lit0 _ _ _)⟩)
   · clear hi;intro o ho lz fz w' A hJ hli ha hA K hK
     obtain ⟨hv,hd,hq,hp⟩:=hJ.now (i:=1) (by omega) hli
     obtain rfl:=Option.some.inj ho
     clear ho
     have hB:=hq.below
     have g1:=slot_out hA 1 _ (by decide) (by decide) rfl
     simp only [List.getD_cons_succ,List.getD_cons_zero] at g1
     have gg1:=slot_get g1
     rw [if_pos (by rfl)]
     have hF:=hK (.pointer (some ⟨w.heap.size,0,none⟩)) w' (LastJ.step hJ 1 (by omega) hli (by decide) ⟨hv.step 1 7 _ (by simp),hd.step 1 7 _ hli (by simp [allR]),hq.still 1 7 _ (Below.refl _ _) (by simp),hp.still (fun _ _ _ hb h=>EgAt.keep h hb) 1 7 _ (by decide) (by decide) (Below.refl _ _) (by simp)⟩)
     clear hv hp hq ha hK hA hli hd hB hJ
     go_simp
     exact hF
   · clear hi;intro o ho lz fz w' A hJ hli ha hA K hK
     obtain ⟨hv,hd,hq,hp⟩:=hJ.now (i:=2) (by omega) hli
     obtain rfl:=Option.some.inj ho
     clear ho
     have hB:=hq.below
     have g7:=slot_in hA 7 (by decide) (by decide) (hv (1,7,(.pointer (some ⟨w.heap.size,0,none⟩))) (by simp) (ha 1 (by simp [aftersOf,Region.binds])))
     have gg7:=slot_get g7
     rw [if_pos (by rfl)]
     obtain ⟨k0,k1,k2,k3,-⟩:=HC.out w' hB
     have hF:=hK (.slice a1 n1 c1) w' (LastJ.step hJ 2 (by omega) hli (by decide) ⟨hv.step 2 8 _ (by simp),hd.step 2 8 _ hli (by simp [allR]),hq.still 2 8 _ (Below.refl _ _) (by simp),hp.still (fun _ _ _ hb h=>EgAt.keep h hb) 2 8 _ (by decide) (by decide) (Below.refl _ _) (by simp)⟩)
     clear hv hp hq ha hK hA hli hd hB hJ
     go_simp
     exact hF
   · clear hi;intro o ho lz fz w' A hJ hli ha hA K hK
     obtain ⟨hv,hd,hq,hp⟩:=hJ.now (i:=3) (by omega) hli
     obtain rfl:=Option.some.inj ho
     clear ho
     have hB:=hq.below
     have g6:A.tmps.getD 6 undef=fz 6:=slot_in hA 6 (by decide) (by decide) rfl
     have g8:=slot_in hA 8 (by decide) (by decide) (hv (2,8,(.slice a1 n1 c1)) (by simp) (ha 2 (by simp [aftersOf,Region.binds])))
     have gg6:=slot_get g6
     have gg8:=slot_get g8
     rw [if_pos (by rfl)]
     have ha0:=ha 0 (by simp [aftersOf,Region.binds])
     have o0:=hq.at (t:=⟨0,some 3,6,43,2,0,[]⟩) (by simp) ha0 (by simpa using hli)
     refine wp_append_copy (.tmp 6) (.tmp 8) 23 rfl w0.heap.size 43 (.agg #[.int .i64 0,.int .i64 0]) 2 16 Tryz.underlying23 infoEnt rfl (by decide) (by rw [slot_eval g6];exact o0) a1 n1 c1 (by rw [slot_eval g8]) HN1.out (flatE e.base) HL1.out (HW1.out w' hB) (flatE_oneCell _) hm1 (by decide) hB.size ?_
     intro v9 w9 ho9 hg9 hl9
     rw [slot_eval g6] at hg9 hl9
     exact hK v9 w9 (LastJ.step hJ 3 (by omega) hli (by decide) ⟨hv.step 3 9 _ (by simp),hd.step 3 9 _ hli (by simp [allR]),hq.repl 3 9 v9 ⟨0,some 3,6,43,2,0,[]⟩ (by simp) (by simp [RowT.live,ha0,hli]) hg9 hl9 (by simp;exact ho9),hp.repl (fun _ _ _ hb h=>EgAt.keep h hb) hq 3 9 v9 (by decide) (by decide) ⟨0,some 3,6,43,2,0,[]⟩ (by simp) (by simp [RowT.live,ha0,hli]) hg9 hl9 (by simp;exact ho9)⟩)
   · clear hi;intro o ho lz fz w' A hJ hli ha hA K hK
     obtain ⟨hv,hd,hq,hp⟩:=hJ.now (i:=4) (by omega) hli
     obtain rfl:=Option.some.inj ho
     clear ho
     have hB:=hq.below
     rw [if_pos (by rfl)]
     go_simp
     exact hK _ _ (LastJ.step hJ 4 (by omega) hli (by decide) ⟨hv.step 4 10 _ (by simp),hd.step 4 10 _ hli (by simp [allR]),hq.new 4 10 _ ((Below.refl w'.heap.size w').alloc (Nat.le_refl _) _) (by simp;exact owns_lit0 _ _ _),hp.new (fun _ _ _ hb h=>EgAt.keep h hb) 4 10 _ (by decide) (by decide) ((Below.refl w'.heap.size w').alloc (Nat.le_refl _) _) (by simp;exact owns_lit0 _ _ _)⟩)
   · clear hi;intro o ho lz fz w' A hJ hli ha hA K hK
     obtain ⟨hv,hd,hq,hp⟩:=hJ.now (i:=5) (by omega) hli
     obtain rfl:=Option.some.inj ho
     clear ho
     have hB:=hq.below
     have g1:=slot_out hA 1 _ (by decide) (by decide) rfl
     simp only [List.getD_cons_succ,List.getD_cons_zero] at g1
     have gg1:=slot_get g1
     rw [if_pos (by rfl)]
     have hF:=hK (.pointer (some ⟨w.heap.size,1,none⟩)) w' (LastJ.step hJ 5 (by omega) hli (by decide) ⟨hv.step 5 11 _ (by simp),hd.step 5 11 _ hli (by simp [allR]),hq.still 5 11 _ (Below.refl _ _) (by simp),hp.still (fun _ _ _ hb h=>EgAt.keep h hb) 5 11 _ (by decide) (by decide) (Below.refl _ _) (by simp)⟩)
     clear hv hp hq ha hK hA hli hd hB hJ
     go_simp
     exact hF
   · clear hi;intro o ho lz fz w' A hJ hli ha hA K hK
     obtain ⟨hv,hd,hq,hp⟩:=hJ.now (i:=6) (by omega) hli
     obtain rfl:=Option.some.inj ho
     clear ho
     have hB:=hq.below
     have g11:=slot_in hA 11 (by decide) (by decide) (hv (5,11,(.pointer (some ⟨w.heap.size,1,none⟩))) (by simp) (ha 5 (by simp [aftersOf,Region.binds])))
     have gg11:=slot_get g11
     rw [if_pos (by rfl)]
     obtain ⟨k0,k1,k2,k3,-⟩:=HC.out w' hB
     have hF:=hK (.slice a2 n2 c2) w' (LastJ.step hJ 6 (by omega) hli (by decide) ⟨hv.step 6 12 _ (by simp),hd.step 6 12 _ hli (by simp [allR]),hq.still 6 12 _ (Below.refl _ _) (by simp),hp.still (fun _ _ _ hb h=>EgAt.keep h hb) 6 12 _ (by decide) (by decide) (Below.refl _ _) (by simp)⟩)
     clear hv hp hq ha hK hA hli hd hB hJ
     go_simp
     exact hF
   · clear hi;intro o ho lz fz w' A hJ hli ha hA K hK
     obtain ⟨hv,hd,hq,hp⟩:=hJ.now (i:=7) (by omega) hli
     obtain rfl:=Option.some.inj ho
     clear ho
     have hB:=hq.below
     have g10:A.tmps.getD 10 undef=fz 10:=slot_in hA 10 (by decide) (by decide) rfl
     have g12:=slot_in hA 12 (by decide) (by decide) (hv (6,12,(.slice a2 n2 c2)) (by simp) (ha 6 (by simp [aftersOf,Region.binds])))
     have gg10:=slot_get g10
     have gg12:=slot_get g12
     rw [if_pos (by rfl)]
     have ha0:=ha 4 (by simp [aftersOf,Region.binds])
     have o0:=hq.at (t:=⟨4,some 7,10,87,4,0,[]⟩) (by simp) ha0 (by simpa using hli)
     refine wp_append_copy (.tmp 10) (.tmp 12) 24 rfl w0.heap.size 87 (.agg #[.int .i64 0,.int .i64 0,.int .i64 0,.int .i64 0]) 4 32 Tryz.underlying24 infoActE rfl (by decide) (by rw [slot_eval g10];exact o0) a2 n2 c2 (by rw [slot_eval g12]) HN2.out (flatA e.list) HL2.out (HW2.out w' hB) (flatA_one _) hm2 (by decide) hB.size ?_
     intro v9 w9 ho9 hg9 hl9
     rw [slot_eval g10] at hg9 hl9
     exact hK v9 w9 (LastJ.step hJ 7 (by omega) hli (by decide) ⟨hv.step 7 13 _ (by simp),hd.step 7 13 _ hli (by simp [allR]),hq.repl 7 13 v9 ⟨4,some 7,10,87,4,0,[]⟩ (by simp) (by simp [RowT.live,ha0,hli]) hg9 hl9 (by simp;exact ho9),hp.repl (fun _ _ _ hb h=>EgAt.keep h hb) hq 7 13 v9 (by decide) (by decide) ⟨4,some 7,10,87,4,0,[]⟩ (by simp) (by simp [RowT.live,ha0,hli]) hg9 hl9 (by simp;exact ho9)⟩)
   · clear hi;intro o ho lz fz w' A hJ hli ha hA K hK
     obtain ⟨hv,hd,hq,hp⟩:=hJ.now (i:=8) (by omega) hli
     obtain rfl:=Option.some.inj ho
     clear ho
     have hB:=hq.below
     rw [if_pos (by rfl)]
     go_simp
     exact hK _ _ (LastJ.step hJ 8 (by omega) hli (by decide) ⟨hv.step 8 14 _ (by simp),hd.step 8 14 _ hli (by simp [allR]),hq.new 8 14 _ ((Below.refl w'.heap.size w').alloc (Nat.le_refl _) _) (by simp;exact owns_lit0 _ _ _),hp.new (fun _ _ _ hb h=>EgAt.keep h hb) 8 14 _ (by decide) (by decide) ((Below.refl w'.heap.size w').alloc (Nat.le_refl _) _) (by simp;exact owns_lit0 _ _ _)⟩)
   · clear hi;intro o ho lz fz w' A hJ hli ha hA K hK
     obtain ⟨hv,hd,hq,hp⟩:=hJ.now (i:=9) (by omega) hli
     obtain rfl:=Option.some.inj ho
     clear ho
     have hB:=hq.below
     have g1:=slot_out hA 1 _ (by decide) (by decide) rfl
     simp only [List.getD_cons_succ,List.getD_cons_zero] at g1
     have gg1:=slot_get g1
     rw [if_pos (by rfl)]
     have hF:=hK (.pointer (some ⟨w.heap.size,2,none⟩)) w' (LastJ.step hJ 9 (by omega) hli (by decide) ⟨hv.step 9 15 _ (by simp),hd.step 9 15 _ hli (by simp [allR]),hq.still 9 15 _ (Below.refl _ _) (by simp),hp.still (fun _ _ _ hb h=>EgAt.keep h hb) 9 15 _ (by decide) (by decide) (Below.refl _ _) (by simp)⟩)
     clear hv hp hq ha hK hA hli hd hB hJ
     go_simp
     exact hF
   · clear hi;intro o ho lz fz w' A hJ hli ha hA K hK
     obtain ⟨hv,hd,hq,hp⟩:=hJ.now (i:=10) (by omega) hli
     obtain rfl:=Option.some.inj ho
     clear ho
     have hB:=hq.below
     have g15:=slot_in hA 15 (by decide) (by decide) (hv (9,15,(.pointer (some ⟨w.heap.size,2,none⟩))) (by simp) (ha 9 (by simp [aftersOf,Region.binds])))
     have gg15:=slot_get g15
     rw [if_pos (by rfl)]
     obtain ⟨k0,k1,k2,k3,-⟩:=HC.out w' hB
     have hF:=hK (.slice a3 n3 c3) w' (LastJ.step hJ 10 (by omega) hli (by decide) ⟨hv.step 10 16 _ (by simp),hd.step 10 16 _ hli (by simp [allR]),hq.still 10 16 _ (Below.refl _ _) (by simp),hp.still (fun _ _ _ hb h=>EgAt.keep h hb) 10 16 _ (by decide) (by decide) (Below.refl _ _) (by simp)⟩)
     clear hv hp hq ha hK hA hli hd hB hJ
     go_simp
     exact hF
   · clear hi;intro o ho lz fz w' A hJ hli ha hA K hK
     obtain ⟨hv,hd,hq,hp⟩:=hJ.now (i:=11) (by omega) hli
     obtain rfl:=Option.some.inj ho
     clear ho
     have hB:=hq.below
     have g14:A.tmps.getD 14 undef=fz 14:=slot_in hA 14 (by decide) (by decide) rfl
     have g16:=slot_in hA 16 (by decide) (by decide) (hv (10,16,(.slice a3 n3 c3)) (by simp) (ha 10 (by simp [aftersOf,Region.binds])))
     have gg14:=slot_get g14
     have gg16:=slot_get g16
     rw [if_pos (by rfl)]
     have ha0:=ha 8 (by simp [aftersOf,Region.binds])
     have o0:=hq.at (t:=⟨8,some 11,14,73,3,0,[]⟩) (by simp) ha0 (by simpa using hli)
     refine wp_append_copy (.tmp 14) (.tmp 16) 35 rfl w0.heap.size 73 (.agg #[.int .i64 0,.int .i64 0,.int .i64 0]) 3 24 Tryz.underlying35 infoVer rfl (by decide) (by rw [slot_eval g14];exact o0) a3 n3 c3 (by rw [slot_eval g16]) HN3.out (flatV e.vers) HL3.out (HW3.out w' hB) (flatV_one _) hm3 (by decide) hB.size ?_
     intro v9 w9 ho9 hg9 hl9
     rw [slot_eval g14] at hg9 hl9
     exact hK v9 w9 (LastJ.step hJ 11 (by omega) hli (by decide) ⟨hv.step 11 17 _ (by simp),hd.step 11 17 _ hli (by simp [allR]),hq.repl 11 17 v9 ⟨8,some 11,14,73,3,0,[]⟩ (by simp) (by simp [RowT.live,ha0,hli]) hg9 hl9 (by simp;exact ho9),hp.repl (fun _ _ _ hb h=>EgAt.keep h hb) hq 11 17 v9 (by decide) (by decide) ⟨8,some 11,14,73,3,0,[]⟩ (by simp) (by simp [RowT.live,ha0,hli]) hg9 hl9 (by simp;exact ho9)⟩)
   · clear hi;intro o ho lz fz w' A hJ hli ha hA K hK
     obtain ⟨hv,hd,hq,hp⟩:=hJ.now (i:=12) (by omega) hli
     obtain rfl:=Option.some.inj ho
     clear ho
     have hB:=hq.below
     have g9:A.tmps.getD 9 undef=fz 9:=slot_in hA 9 (by decide) (by decide) rfl
     have g13:A.tmps.getD 13 undef=fz 13:=slot_in hA 13 (by decide) (by decide) rfl
     have g17:A.tmps.getD 17 undef=fz 17:=slot_in hA 17 (by decide) (by decide) rfl
     have gg9:=slot_get g9
     have gg13:=slot_get g13
     have gg17:=slot_get g17
     rw [if_pos (by rfl)]
     have hF:=hK (.agg #[fz 9,fz 13,fz 17,.slice none 0 0]) w' (LastJ.step hJ 12 (by omega) hli (by decide) ⟨hv.step 12 18 _ (by simp),hd.step 12 18 _ hli (by simp [allR,ha 3 (by simp [aftersOf,Region.binds]),ha 7 (by simp [aftersOf,Region.binds]),ha 11 (by simp [aftersOf,Region.binds])]),hq.still 12 18 _ (Below.refl _ _) (by simp),hp.still (fun _ _ _ hb h=>EgAt.keep h hb) 12 18 _ (by decide) (by decide) (Below.refl _ _) (by simp)⟩)
     have o9:=hq.at (t:=⟨3,none,9,43,2,n1,(flatE e.base)⟩) (by simp) (ha 3 (by simp [aftersOf,Region.binds])) (by rfl)
     obtain ⟨p9,q9,k9,e9⟩:=slice_form o9
     simp only at e9
     rw [e9] at g9 gg9 hF
     clear o9
     have o13:=hq.at (t:=⟨7,none,13,87,4,n2,(flatA e.list)⟩) (by simp) (ha 7 (by simp [aftersOf,Region.binds])) (by rfl)
     obtain ⟨p13,q13,k13,e13⟩:=slice_form o13
     simp only at e13
     rw [e13] at g13 gg13 hF
     clear o13
     have o17:=hq.at (t:=⟨11,none,17,73,3,n3,(flatV e.vers)⟩) (by simp) (ha 11 (by simp [aftersOf,Region.binds])) (by rfl)
     obtain ⟨p17,q17,k17,e17⟩:=slice_form o17
     simp only at e17
     rw [e17] at g17 gg17 hF
     clear o17
     clear hv hp hq ha hK hA hli hd hB hJ
     go_simp
     exact hF
   · clear hi;intro o ho lz fz w' A hJ hli ha hA K hK
     obtain ⟨hv,hd,hq,hp⟩:=hJ.now (i:=13) (by omega) hli
     obtain rfl:=Option.some.inj ho
     clear ho
     have hB:=hq.below
     rw [if_pos (by rfl)]
     go_simp
     exact hK _ _ (LastJ.step hJ 13 (by omega) hli (by decide) ⟨hv.step 13 3 _ (by simp),hd.step 13 3 _ hli (by simp [allR]),hq.still 13 3 _ ((Below.refl w'.heap.size w').alloc (Nat.le_refl _) _) (by simp),PtrJ.make hq _ (egAt_new _ _ _ _ _ _) (by simp)⟩)
   · clear hi;intro o ho lz fz w' A hJ hli ha hA K hK
     obtain ⟨hv,hd,hq,hp⟩:=hJ.now (i:=14) (by omega) hli
     obtain rfl:=Option.some.inj ho
     clear ho
     have hB:=hq.below
     have g3:A.tmps.getD 3 undef=fz 3:=slot_in hA 3 (by decide) (by decide) rfl
     have hd18:=(hd (⟨12,18,[(3,9),(7,13),(11,17)],fun f=>.agg #[f 9,f 13,f 17,.slice none 0 0],fun f g h=>by simp at h;simp [h]⟩:DepT) (by simp) (ha 12 (by simp [aftersOf,Region.binds]))).2
     simp only at hd18
     have g18:A.tmps.getD 18 undef=fz 18:=slot_in hA 18 (by decide) (by decide) rfl
     have gg3:=slot_get g3
     have gg18:=slot_get g18
     rw [if_pos (by rfl)]
     have hall:∀ k,k < 14→lz k=true:=fun k hk=>ha k (by have hk2:k < 14:=hk;rcases (by omega:k=0∨k=1∨k=2∨k=3∨k=4∨k=5∨k=6∨k=7∨k=8∨k=9∨k=10∨k=11∨k=12∨k=13) with rfl | rfl | rfl | rfl | rfl | rfl | rfl | rfl | rfl | rfl | rfl | rfl | rfl | rfl <;> simp [aftersOf,Region.binds])
     have hR:=hq.list [(⟨3,none,9,43,2,n1,(flatE e.base)⟩:RowT),(⟨7,none,13,87,4,n2,(flatA e.list)⟩:RowT),(⟨11,none,17,73,3,n3,(flatV e.vers)⟩:RowT)] (by simp [RowT.live,hall 3 (by decide),hall 7 (by decide),hall 11 (by decide)]) (by simp)
     simp only [List.map_cons,List.map_nil,RowT.row] at hR
     obtain ⟨b,hb1,hb2,hb3,hb4,hb5⟩:=hp (hall 13 (by decide))
     have off9:=hb5 (⟨3,none,9,43,2,n1,(flatE e.base)⟩:RowT) (by simp) (by simp [RowT.live,hall 3 (by decide)])
     have off13:=hb5 (⟨7,none,13,87,4,n2,(flatA e.list)⟩:RowT) (by simp) (by simp [RowT.live,hall 7 (by decide)])
     have off17:=hb5 (⟨11,none,17,73,3,n3,(flatV e.vers)⟩:RowT) (by simp) (by simp [RowT.live,hall 11 (by decide)])
     simp only at off9 off13 off17
     obtain ⟨p9,q9,k9,e9⟩:=slice_form hR.head
     simp only at e9
     obtain ⟨p13,q13,k13,e13⟩:=slice_form hR.tail.head
     simp only at e13
     obtain ⟨p17,q17,k17,e17⟩:=slice_form hR.tail.tail.head
     simp only at e17
     rw [e9,e13,e17] at hd18 hR
     rw [e9] at off9
     rw [e13] at off13
     rw [e17] at off17
     rw [hd18] at g18 gg18
     rw [hb1] at g3 gg3
     have hb4':=hb4
     obtain ⟨z0,z1,z2,z3,f0,f1,f2,f3⟩:=hb4
     clear hd18
     have hF:=hK undef _ (LastJ.last (fun i hi hne=>hall i (by omega)) ⟨w',_,_,_,b,by simpa using hb1,hb2,hb3,hR,off9,off13,off17,hB,hb4',rfl⟩)
     clear hv hp hq ha hK hA hli hd hB hJ hall hR hb5 off9 off13 off17 hb1
     unfold set4 at hF
     go_simp
     exact hF
 · intro lz fz w5 hall hJ
   have hfin:=(hJ.2 (hall 14 (by decide))).2
   simp only [mixF,List.contains_cons,List.contains_nil]
   go_simp
   obtain ⟨w1,u1,u2,u3,b,hf3,hb1,hb2,hR,o1,o2,o3,hbW,hE,rfl⟩:=hfin
   obtain ⟨p1,q1,k1,e1⟩:=slice_form hR.head
   obtain ⟨p2,q2,k2,e2⟩:=slice_form hR.tail.head
   obtain ⟨p3,q3,k3,e3⟩:=slice_form hR.tail.tail.head
   simp only at e1 e2 e3
   have hEg:=hE.set4 u1 u2 u3 (.slice none 0 0)
   have hkeep:∀ q,q≠b→(set4 w1 b u1 u2 u3 (.slice none 0 0)).heap[q]? = w1.heap[q]?:=fun q hq=>by
    unfold set4
    rw [Below.heap_setCell _ _ _ _ (by simpa using hq),Below.heap_setCell _ _ _ _ (by simpa using hq),Below.heap_setCell _ _ _ _ (by simpa using hq),Below.heap_setCell _ _ _ _ (by simpa using hq)]
   have hO:=hR.keep (w':=set4 w1 b u1 u2 u3 (.slice none 0 0)) fun r hr q hq=>hkeep q (fun e=>by
    subst e
    simp only [List.mem_cons,List.not_mem_nil,or_false] at hr
    rcases hr with rfl | rfl | rfl
    · exact o1 hq
    · exact o2 hq
    · exact o3 hq)
   have hB5:Below w0.heap.size w0 (set4 w1 b u1 u2 u3 (.slice none 0 0)):=(set4_turn w1 b _ _ _ _).below hbW hb1 hbW.size
   rw [hf3]
   obtain ⟨W5,hW5⟩:∃ W,W=set4 w1 b u1 u2 u3 (.slice none 0 0):=⟨_,rfl⟩
   have hs5:W5.heap.size=w1.heap.size:=by rw [hW5,set4_size]
   rw [← hW5] at hEg hO hB5 ⊢
   obtain rfl:e.base.length=n1:=by have:=HL1.out;rw [flatE_len] at this;omega
   obtain rfl:e.list.length=n2:=by have:=HL2.out;rw [flatA_len] at this;omega
   obtain rfl:e.vers.length=n3:=by have:=HL3.out;rw [flatV_len] at this;omega
   have hown0:OwnR W5 w0.heap.size W5.heap.size (engRs tEng u1 u2 u3 (.slice none 0 0) ⟨e.base,e.list,e.vers,e.slots.take 0⟩ []):=by
    have h0:=(hO.addNil ⟨.slice none 0 0,75,6,0,slsCs [] []⟩ ⟨rfl,rfl,rfl⟩).perm (List.perm_middle (l₁:=[_,_,_])).symm
    rw [List.take_zero]
    exact OwnR.mono h0 (Nat.le_refl _) (by rw [hs5];exact Nat.le_refl _)
   have hoff0:∀ r∈engRs tEng u1 u2 u3 (.slice none 0 0) ⟨e.base,e.list,e.vers,e.slots.take 0⟩ [],blk r.v≠some b:=by
    intro r hr hq
    rw [List.take_zero] at hr
    simp only [engRs,slsRs,List.zip_nil_left,List.flatMap_nil,List.mem_cons,List.not_mem_nil,or_false] at hr
    rcases hr with hr | hr | hr | hr
    · rw [hr] at hq;exact o1 hq
    · rw [hr] at hq;exact o2 hq
    · rw [hr] at hq;exact o3 hq
    · rw [hr] at hq;cases hq
   have hcp0:CpJ w0 b u1 u2 u3 (.slice none 0 0) e 0 [] W5:=⟨rfl,Nat.zero_le _,hEg,hown0,hoff0,hB5,hb1⟩
   have HB0':=HB0
   clear hR hE hkeep hown0 hoff0 hO hB5 hEg hb2 hs5 hW5 hbW o1 o2 o3
   subst e1 e2 e3
   clear hJ hall HW1 HW2 HW3 HL1 HL2 HL3 HN1 HN2 HN3 hf3 HB0'
   have H4W:=Lib.hid h4w
   clear h4w
   have hm4:n4≤4000000:=by rw [← HL4.out];exact HWF.out.slen
   go_wp2_with fail
   go_loopw [4] (fun i wr=>∃ (k:Nat) (u4:Value) (ts:List (Value × Value × Value)),i = .int .i64 k∧CpJ w0 b (.slice p1 q1 k1) (.slice p2 q2 k2) (.slice p3 q3 k3) u4 e k ts wr) (fun i _=>n4 - (intOf i).toNat)
   case atStart=>exact ⟨0,_,_,rfl,hcp0⟩
   case round =>
    clear hcp0
    obtain ⟨k,u4,ts,rfl,hcp⟩:=hrel
    have hkl:k≤n4:=by rw [← HL4.out];exact hcp.kl
    obtain ⟨k0',k1',k2',k3',-⟩:=HC.out wr hcp.below
    by_cases hlt:k < n4
    · obtain ⟨bs,os,rfl,hsl⟩:=(H4W.out.below hcp.below).at k hlt
      have hswf:=HWF.out.slots _ (getD_memS e.slots k (by rw [HL4.out];exact hlt))
      obtain ⟨s,hs⟩:∃ s,s=e.slots.getD k noSlt:=⟨_,rfl⟩
      rw [← hs] at hsl hswf
      have HS:=Lib.hid hs
      clear hs
      obtain ⟨s0,s1,⟨v2,s2,av,nv,cv,rfl,hrv,hzv,-⟩,s3,⟨v4',s4,aw,nw,cw,rfl,hrw,hzw,hcw⟩,v5,s5,ax,nx,cx,rfl,hrx,hzx,hcx⟩:=hsl
      go_upto_region 6 with (fail)
      generalize hw5:World.alloc _ _=Wr
      have hb5:Below wr.heap.size wr Wr:=by rw [← hw5];exact (Below.refl _ _).alloc (Nat.le_refl _) _
      have hz5:wr.heap.size < Wr.heap.size:=by rw [← hw5];simp
      have pc0:Wr.cell? ⟨wr.heap.size,0,none⟩=some (.int .i64 s.stage):=by rw [← hw5];simp [go_sem]
      have pc1:Wr.cell? ⟨wr.heap.size,1,none⟩=some (.int .i64 s.tries):=by rw [← hw5];simp [go_sem]
      have pc2:Wr.cell? ⟨wr.heap.size,2,none⟩=some (.slice av nv cv):=by rw [← hw5];simp [go_sem]
      have pc3:Wr.cell? ⟨wr.heap.size,3,none⟩=some (.bool s.res.done):=by rw [← hw5];simp [go_sem]
      have pc4:Wr.cell? ⟨wr.heap.size,4,none⟩=some (.slice aw nw cw):=by rw [← hw5];simp [go_sem]
      have pc5:Wr.cell? ⟨wr.heap.size,5,none⟩=some (.slice ax nx cx):=by rw [← hw5];simp [go_sem]
      have HCP:=Lib.hid (hcp.grown hb5)
      have hrv5:=hrv.below hb5
      have hrw5:=hrw.below hb5
      have hrx5:=hrx.below hb5
      obtain ⟨Z5,hZ5⟩:∃ Z,Z=wr.heap.size:=⟨_,rfl⟩
      rw [← hZ5] at pc0 pc1 pc2 pc3 pc4 pc5 hz5 ⊢
      have HC6:Hid (∀ W',Below Wr.heap.size Wr W'→EgAt W' b (.slice p1 q1 k1) (.slice p2 q2 k2) (.slice p3 q3 k3) u4∧(W'.cell? ⟨Z5,0,none⟩=some (.int .i64 s.stage)∧W'.cell? ⟨Z5,1,none⟩=some (.int .i64 s.tries)∧W'.cell? ⟨Z5,2,none⟩=some (.slice av nv cv)∧W'.cell? ⟨Z5,3,none⟩=some (.bool s.res.done)∧W'.cell? ⟨Z5,4,none⟩=some (.slice aw nw cw)∧W'.cell? ⟨Z5,5,none⟩=some (.slice ax nx cx))∧RowI W' av nv s.from_∧SliE W' (.slice aw nw cw) s.res.rds∧SliE W' (.slice ax nx cx) s.res.wrs):=Lib.hid (fun W' hb =>
       ⟨HCP.out.eg.below hb,⟨below_cs hb hz5 pc0,below_cs hb hz5 pc1,below_cs hb hz5 pc2,below_cs hb hz5 pc3,below_cs hb hz5 pc4,below_cs hb hz5 pc5⟩,hrv5.below hb,⟨aw,nw,cw,rfl,hrw5.below hb,hzw,hcw⟩,ax,nx,cx,rfl,hrx5.below hb,hzx,hcx⟩)
      have HLV0:=Lib.hid hrv5.1
      have HLV:Hid ((s.from_.map (Value.int .i64)).length=nv*1):=Lib.hid (by rw [List.length_map,hrv5.1,Nat.mul_one])
      have HNV:Hid (av=none→nv=0∧cv=0):=Lib.hid (fun he=>by
       refine ⟨?_,hzv he⟩
       rcases Nat.eq_zero_or_pos nv with h | h
       · exact h
       · obtain ⟨b1,o1,h3,_⟩:=hrv5.2.2.1 h
         rw [he] at h3;cases h3)
      have hnv:nv≤4000000:=by rw [← HLV0.out];exact hswf.flen
      have HRL:=Lib.hid hswf.rlen
      have HWL:=Lib.hid hswf.wlen
      have hk4:k+1≤4000000:=by omega
      clear hw5 hb5 hcp hrv hrw hrx hrv5 hrw5 hrx5 hzv hzw hzx hcw hcx hswf s0 s1 s2 s3 s4 s5 pc0 pc1 pc2 pc3 pc4 pc5 hz5 hZ5 k0' k1' k2' k3'
      refine wp_region_light (by kernel_rfl) (LastJ (MidJ (fun lz fz wz=>Vals [(0,31,(.pointer (some ⟨b,3,none⟩))),(1,32,(u4)),(2,33,(.pointer (some ⟨Z5,0,none⟩))),(3,34,(.int .i64 s.stage)),(4,35,(.pointer (some ⟨Z5,1,none⟩))),(5,36,(.int .i64 s.tries)),(7,38,(.pointer (some ⟨Z5,2,none⟩))),(8,39,(.slice av nv cv)),(10,41,(.pointer (some ⟨Z5,3,none⟩))),(11,42,(.agg #[.bool s.res.done,.slice aw nw cw,.slice ax nx cx])),(16,47,(.pointer (some ⟨b,3,none⟩)))] lz fz∧Deps [(⟨13,44,[(9,40),(12,43)],fun f=>.agg (#[.int .i64 s.stage,.int .i64 s.tries,f 40]++(f 43).cells),fun f g h=>by simp at h;simp [h]⟩:DepT)] lz fz∧RowsJ Wr [(⟨6,some 9,37,3,1,0,[]⟩:RowT),(⟨9,none,40,3,1,nv,(s.from_.map (Value.int .i64))⟩:RowT)] lz fz wz∧ThgJ Wr [(⟨6,some 9,37,3,1,0,[]⟩:RowT),(⟨9,none,40,3,1,nv,(s.from_.map (Value.int .i64))⟩:RowT)] 12 43 blF (fun W v=>OwnF W Wr.heap.size 43 v s.res) lz fz wz∧LitJ 2 14 45 44 75 lz fz wz∧ClJ [(1,[0]),(3,[2]),(5,[4]),(8,[7]),(9,[6,8]),(11,[10]),(12,[11]),(13,[3,5,9,12]),(14,[13]),(15,[1,14])] lz) 15 (fun lz fz wz=>∃ v4,fz 46=v4∧CpJ2 w0 b (.slice p1 q1 k1) (.slice p2 q2 k2) (.slice p3 q3 k3) u4 v4 e k ts s wz∧(lz 16=true→fz 47=(.pointer (some ⟨b,3,none⟩))))) 17 18 (fun _ wz=>∃ v4 w15,CpJ2 w0 b (.slice p1 q1 k1) (.slice p2 q2 k2) (.slice p3 q3 k3) u4 v4 e k ts s w15∧wz=w15.setCell ⟨b,3,none⟩ v4)) 49 rfl [31,32,33,34,35,36,37,38,39,40,41,42,43,44,45,46,47] (by kernel_rfl) (by kernel_rfl) (by kernel_rfl) (fun f=>LastJ.nothing (MidJ.nothing ⟨Vals.nothing _ f,Deps.nothing _ f,RowsJ.nothing _ _ f,ThgJ.nothing _ _ _ _ _ _ f _,LitJ.nothing _ _ _ _ _ f _,ClJ.nothing _⟩)) ?_ ?_
      · intro i hi
        rcases (by have:i < 18:=hi;omega:i=0∨i=1∨i=2∨i=3∨i=4∨i=5∨i=6∨i=7∨i=8∨i=9∨i=10∨i=11∨i=12∨i=13∨i=14∨i=15∨i=16∨i=17) with rfl | rfl | rfl | rfl | rfl | rfl | rfl | rfl | rfl | rfl | rfl | rfl | rfl | rfl | rfl | rfl | rfl | rfl
        · clear hi;intro o ho lz fz w' A hJ hli ha hA K hK
          have hM:=hJ.now (i:=0) (by omega) hli
          obtain ⟨hv,hd,hq,ht,hl,hc⟩:=hM.now (i:=0) (by omega) hli
          obtain rfl:=Option.some.inj ho
          clear ho
          have hB:=hq.below
          have g3:=slot_out hA 3 _ (by decide) (by decide) rfl
          simp only [List.getD_cons_succ,List.getD_cons_zero] at g3
          have gg3:=slot_get g3
          rw [if_pos (by rfl)]
          have hF:=hK (.pointer (some ⟨b,3,none⟩)) w' (LastJ.step hJ 0 (by omega) hli (by decide) (hM.step 0 (by omega) hli ⟨hv.step 0 31 _ (by simp),hd.step 0 31 _ hli (by simp [allR]),hq.still 0 31 _ (Below.refl _ _) (by simp),ht.still ownF_keep 0 31 _ (by decide) (by decide) (Below.refl _ _) (by simp),hl.still 0 31 _ (by decide) (by decide) (by decide),(hc.step 0 (by simp))⟩))
          clear hv hq ht hl hc ha hK hA hli hd hB hJ hM
          go_simp
          exact hF
        · clear hi;intro o ho lz fz w' A hJ hli ha hA K hK
          have hM:=hJ.now (i:=1) (by omega) hli
          obtain ⟨hv,hd,hq,ht,hl,hc⟩:=hM.now (i:=1) (by omega) hli
          obtain rfl:=Option.some.inj ho
          clear ho
          have hB:=hq.below
          have g31:=slot_in hA 31 (by decide) (by decide) (hv (0,31,(.pointer (some ⟨b,3,none⟩))) (by simp) (ha 0 (by simp [aftersOf,Region.binds])))
          have gg31:=slot_get g31
          rw [if_pos (by rfl)]
          obtain ⟨zE,zS,zI,zR,zW⟩:=HC6.out w' hB
          have k3:=zE.c3
          have hF:=hK (u4) w' (LastJ.step hJ 1 (by omega) hli (by decide) (hM.step 1 (by omega) hli ⟨hv.step 1 32 _ (by simp),hd.step 1 32 _ hli (by simp [allR]),hq.still 1 32 _ (Below.refl _ _) (by simp),ht.still ownF_keep 1 32 _ (by decide) (by decide) (Below.refl _ _) (by simp),hl.still 1 32 _ (by decide) (by decide) (by decide),(hc.step 1 (by simp [ha 0 (by simp [aftersOf,Region.binds])]))⟩))
          clear hv hq ht hl hc ha hK hA hli hd hB hJ hM
          go_simp
          exact hF
        · clear hi;intro o ho lz fz w' A hJ hli ha hA K hK
          have hM:=hJ.now (i:=2) (by omega) hli
          obtain ⟨hv,hd,hq,ht,hl,hc⟩:=hM.now (i:=2) (by omega) hli
          obtain rfl:=Option.some.inj ho
          clear ho
          have hB:=hq.below
          have g5:=slot_out hA 5 _ (by decide) (by decide) rfl
          simp only [List.getD_cons_succ,List.getD_cons_zero] at g5
          have gg5:=slot_get g5
          rw [if_pos (by rfl)]
          have hF:=hK (.pointer (some ⟨Z5,0,none⟩)) w' (LastJ.step hJ 2 (by omega) hli (by decide) (hM.step 2 (by omega) hli ⟨hv.step 2 33 _ (by simp),hd.step 2 33 _ hli (by simp [allR]),hq.still 2 33 _ (Below.refl _ _) (by simp),ht.still ownF_keep 2 33 _ (by decide) (by decide) (Below.refl _ _) (by simp),hl.before 2 33 _ (by omega) (by omega) hli,(hc.step 2 (by simp))⟩))
          clear hv hq ht hl hc ha hK hA hli hd hB hJ hM
          go_simp
          exact hF
        · clear hi;intro o ho lz fz w' A hJ hli ha hA K hK
          have hM:=hJ.now (i:=3) (by omega) hli
          obtain ⟨hv,hd,hq,ht,hl,hc⟩:=hM.now (i:=3) (by omega) hli
          obtain rfl:=Option.some.inj ho
          clear ho
          have hB:=hq.below
          have g33:=slot_in hA 33 (by decide) (by decide) (hv (2,33,(.pointer (some ⟨Z5,0,none⟩))) (by simp) (ha 2 (by simp [aftersOf,Region.binds])))
          have gg33:=slot_get g33
          rw [if_pos (by rfl)]
          obtain ⟨zE,zS,zI,zR,zW⟩:=HC6.out w' hB
          obtain ⟨k0,k1,k2,k3,k4,k5⟩:=zS
          have hF:=hK (.int .i64 s.stage) w' (LastJ.step hJ 3 (by omega) hli (by decide) (hM.step 3 (by omega) hli ⟨hv.step 3 34 _ (by simp),hd.step 3 34 _ hli (by simp [allR]),hq.still 3 34 _ (Below.refl _ _) (by simp),ht.still ownF_keep 3 34 _ (by decide) (by decide) (Below.refl _ _) (by simp),hl.before 3 34 _ (by omega) (by omega) hli,(hc.step 3 (by simp [ha 2 (by simp [aftersOf,Region.binds])]))⟩))
          clear hv hq ht hl hc ha hK hA hli hd hB hJ hM
          go_simp
          exact hF
        · clear hi;intro o ho lz fz w' A hJ hli ha hA K hK
          have hM:=hJ.now (i:=4) (by omega) hli
          obtain ⟨hv,hd,hq,ht,hl,hc⟩:=hM.now (i:=4) (by omega) hli
          obtain rfl:=Option.some.inj ho
          clear ho
          have hB:=hq.below
          have g5:=slot_out hA 5 _ (by decide) (by decide) rfl
          simp only [List.getD_cons_succ,List.getD_cons_zero] at g5
          have gg5:=slot_get g5
          rw [if_pos (by rfl)]
          have hF:=hK (.pointer (some ⟨Z5,1,none⟩)) w' (LastJ.step hJ 4 (by omega) hli (by decide) (hM.step 4 (by omega) hli ⟨hv.step 4 35 _ (by simp),hd.step 4 35 _ hli (by simp [allR]),hq.still 4 35 _ (Below.refl _ _) (by simp),ht.still ownF_keep 4 35 _ (by decide) (by decide) (Below.refl _ _) (by simp),hl.before 4 35 _ (by omega) (by omega) hli,(hc.step 4 (by simp))⟩))
          clear hv hq ht hl hc ha hK hA hli hd hB hJ hM
          go_simp
          exact hF
        · clear hi;intro o ho lz fz w' A hJ hli ha hA K hK
          have hM:=hJ.now (i:=5) (by omega) hli
          obtain ⟨hv,hd,hq,ht,hl,hc⟩:=hM.now (i:=5) (by omega) hli
          obtain rfl:=Option.some.inj ho
          clear ho
          have hB:=hq.below
          have g35:=slot_in hA 35 (by decide) (by decide) (hv (4,35,(.pointer (some ⟨Z5,1,none⟩))) (by simp) (ha 4 (by simp [aftersOf,Region.binds])))
          have gg35:=slot_get g35
          rw [if_pos (by rfl)]
          obtain ⟨zE,zS,zI,zR,zW⟩:=HC6.out w' hB
          obtain ⟨k0,k1,k2,k3,k4,k5⟩:=zS
          have hF:=hK (.int .i64 s.tries) w' (LastJ.step hJ 5 (by omega) hli (by decide) (hM.step 5 (by omega) hli ⟨hv.step 5 36 _ (by simp),hd.step 5 36 _ hli (by simp [allR]),hq.still 5 36 _ (Below.refl _ _) (by simp),ht.still ownF_keep 5 36 _ (by decide) (by decide) (Below.refl _ _) (by simp),hl.before 5 36 _ (by omega) (by omega) hli,(hc.step 5 (by simp [ha 4 (by simp [aftersOf,Region.binds])]))⟩))
          clear hv hq ht hl hc ha hK hA hli hd hB hJ hM
          go_simp
          exact hF
        · clear hi;intro o ho lz fz w' A hJ hli ha hA K hK
          have hM:=hJ.now (i:=6) (by omega) hli
          obtain ⟨hv,hd,hq,ht,hl,hc⟩:=hM.now (i:=6) (by omega) hli
          obtain rfl:=Option.some.inj ho
          clear ho
          have hB:=hq.below
          rw [if_pos (by rfl)]
          go_simp
          exact hK _ _ (LastJ.step hJ 6 (by omega) hli (by decide) (hM.step 6 (by omega) hli ⟨hv.step 6 37 _ (by simp),hd.step 6 37 _ hli (by simp [allR]),hq.new 6 37 _ ((Below.refl w'.heap.size w').alloc (Nat.le_refl _) _) (by simp;exact owns_lit0 _ _ _),ht.new ownF_keep 6 37 _ (by decide) (by decide) ((Below.refl w'.heap.size w').alloc (Nat.le_refl _) _) (by simp;exact owns_lit0 _ _ _),hl.before 6 37 _ (by omega) (by omega) hli,(hc.step 6 (by simp))⟩))
        · clear hi;intro o ho lz fz w' A hJ hli ha hA K hK
          have hM:=hJ.now (i:=7) (by omega) hli
          obtain ⟨hv,hd,hq,ht,hl,hc⟩:=hM.now (i:=7) (by omega) hli
          obtain rfl:=Option.some.inj ho
          clear ho
          have hB:=hq.below
          have g5:=slot_out hA 5 _ (by decide) (by decide) rfl
          simp only [List.getD_cons_succ,List.getD_cons_zero] at g5
          have gg5:=slot_get g5
          rw [if_pos (by rfl)]
          have hF:=hK (.pointer (some ⟨Z5,2,none⟩)) w' (LastJ.step hJ 7 (by omega) hli (by decide) (hM.step 7 (by omega) hli ⟨hv.step 7 38 _ (by simp),hd.step 7 38 _ hli (by simp [allR]),hq.still 7 38 _ (Below.refl _ _) (by simp),ht.still ownF_keep 7 38 _ (by decide) (by decide) (Below.refl _ _) (by simp),hl.before 7 38 _ (by omega) (by omega) hli,(hc.step 7 (by simp))⟩))
          clear hv hq ht hl hc ha hK hA hli hd hB hJ hM
          go_simp
          exact hF
        · clear hi;intro o ho lz fz w' A hJ hli ha hA K hK
          have hM:=hJ.now (i:=8) (by omega) hli
          obtain ⟨hv,hd,hq,ht,hl,hc⟩:=hM.now (i:=8) (by omega) hli
          obtain rfl:=Option.some.inj ho
          clear ho
          have hB:=hq.below
          have g38:=slot_in hA 38 (by decide) (by decide) (hv (7,38,(.pointer (some ⟨Z5,2,none⟩))) (by simp) (ha 7 (by simp [aftersOf,Region.binds])))
          have gg38:=slot_get g38
          rw [if_pos (by rfl)]
          obtain ⟨zE,zS,zI,zR,zW⟩:=HC6.out w' hB
          obtain ⟨k0,k1,k2,k3,k4,k5⟩:=zS
          have hF:=hK (.slice av nv cv) w' (LastJ.step hJ 8 (by omega) hli (by decide) (hM.step 8 (by omega) hli ⟨hv.step 8 39 _ (by simp),hd.step 8 39 _ hli (by simp [allR]),hq.still 8 39 _ (Below.refl _ _) (by simp),ht.still ownF_keep 8 39 _ (by decide) (by decide) (Below.refl _ _) (by simp),hl.before 8 39 _ (by omega) (by omega) hli,(hc.step 8 (by simp [ha 7 (by simp [aftersOf,Region.binds])]))⟩))
          clear hv hq ht hl hc ha hK hA hli hd hB hJ hM
          go_simp
          exact hF
        · clear hi;intro o ho lz fz w' A hJ hli ha hA K hK
          have hM:=hJ.now (i:=9) (by omega) hli
          obtain ⟨hv,hd,hq,ht,hl,hc⟩:=hM.now (i:=9) (by omega) hli
          obtain rfl:=Option.some.inj ho
          clear ho
          have hB:=hq.below
          have g37:A.tmps.getD 37 undef=fz 37:=slot_in hA 37 (by decide) (by decide) rfl
          have g39:=slot_in hA 39 (by decide) (by decide) (hv (8,39,(.slice av nv cv)) (by simp) (ha 8 (by simp [aftersOf,Region.binds])))
          have gg37:=slot_get g37
          have gg39:=slot_get g39
          rw [if_pos (by rfl)]
          obtain ⟨zE,zS,zI,zR,zW⟩:=HC6.out w' hB
          have ha0:=ha 6 (by simp [aftersOf,Region.binds])
          have o0:=hq.at (t:=(⟨6,some 9,37,3,1,0,[]⟩:RowT)) (by simp) ha0 (by simpa using hli)
          refine wp_append_copy (.tmp 37) (.tmp 39) 65 rfl Wr.heap.size 3 (.int .i64 0) 1 8 Tryz.underlying65 infoIntC rfl (by decide) (by rw [slot_eval g37];exact o0) av nv cv (by rw [slot_eval g39]) HNV.out (s.from_.map (Value.int .i64)) HLV.out zI.newsC (ints_oneC _) hnv (by decide) hB.size ?_
          intro v9 w9 ho9 hg9 hl9
          rw [slot_eval g37] at hg9 hl9
          exact hK v9 w9 (LastJ.step hJ 9 (by omega) hli (by decide) (hM.step 9 (by omega) hli ⟨hv.step 9 40 _ (by simp),hd.step 9 40 _ hli (by simp [allR]),hq.repl 9 40 v9 (⟨6,some 9,37,3,1,0,[]⟩:RowT) (by simp) (by simp [RowT.live,ha0,hli]) hg9 hl9 (by simp;exact ho9),ht.repl ownF_keep hq 9 40 v9 (by decide) (by decide) (⟨6,some 9,37,3,1,0,[]⟩:RowT) (by simp) (by simp [RowT.live,ha0,hli]) hg9 hl9 (by simp;exact ho9),hl.before 9 40 _ (by omega) (by omega) hli,(hc.step 9 (by simp [ha 6 (by simp [aftersOf,Region.binds]),ha 8 (by simp [aftersOf,Region.binds])]))⟩))
        · clear hi;intro o ho lz fz w' A hJ hli ha hA K hK
          have hM:=hJ.now (i:=10) (by omega) hli
          obtain ⟨hv,hd,hq,ht,hl,hc⟩:=hM.now (i:=10) (by omega) hli
          obtain rfl:=Option.some.inj ho
          clear ho
          have hB:=hq.below
          have g5:=slot_out hA 5 _ (by decide) (by decide) rfl
          simp only [List.getD_cons_succ,List.getD_cons_zero] at g5
          have gg5:=slot_get g5
          rw [if_pos (by rfl)]
          have hF:=hK (.pointer (some ⟨Z5,3,none⟩)) w' (LastJ.step hJ 10 (by omega) hli (by decide) (hM.step 10 (by omega) hli ⟨hv.step 10 41 _ (by simp),hd.step 10 41 _ hli (by simp [allR]),hq.still 10 41 _ (Below.refl _ _) (by simp),ht.still ownF_keep 10 41 _ (by decide) (by decide) (Below.refl _ _) (by simp),hl.before 10 41 _ (by omega) (by omega) hli,(hc.step 10 (by simp))⟩))
          clear hv hq ht hl hc ha hK hA hli hd hB hJ hM
          go_simp
          exact hF
        · clear hi;intro o ho lz fz w' A hJ hli ha hA K hK
          have hM:=hJ.now (i:=11) (by omega) hli
          obtain ⟨hv,hd,hq,ht,hl,hc⟩:=hM.now (i:=11) (by omega) hli
          obtain rfl:=Option.some.inj ho
          clear ho
          have hB:=hq.below
          have g41:=slot_in hA 41 (by decide) (by decide) (hv (10,41,(.pointer (some ⟨Z5,3,none⟩))) (by simp) (ha 10 (by simp [aftersOf,Region.binds])))
          have gg41:=slot_get g41
          rw [if_pos (by rfl)]
          obtain ⟨zE,zS,zI,zR,zW⟩:=HC6.out w' hB
          obtain ⟨k0,k1,k2,k3,k4,k5⟩:=zS
          have hF:=hK (.agg #[.bool s.res.done,.slice aw nw cw,.slice ax nx cx]) w' (LastJ.step hJ 11 (by omega) hli (by decide) (hM.step 11 (by omega) hli ⟨hv.step 11 42 _ (by simp),hd.step 11 42 _ hli (by simp [allR]),hq.still 11 42 _ (Below.refl _ _) (by simp),ht.still ownF_keep 11 42 _ (by decide) (by decide) (Below.refl _ _) (by simp),hl.before 11 42 _ (by omega) (by omega) hli,(hc.step 11 (by simp [ha 10 (by simp [aftersOf,Region.binds])]))⟩))
          clear hv hq ht hl hc ha hK hA hli hd hB hJ hM
          go_simp
          exact hF
        · clear hi;intro o ho lz fz w' A hJ hli ha hA K hK
          have hM:=hJ.now (i:=12) (by omega) hli
          obtain ⟨hv,hd,hq,ht,hl,hc⟩:=hM.now (i:=12) (by omega) hli
          obtain rfl:=Option.some.inj ho
          clear ho
          have hB:=hq.below
          have g42:=slot_in hA 42 (by decide) (by decide) (hv (11,42,(.agg #[.bool s.res.done,.slice aw nw cw,.slice ax nx cx])) (by simp) (ha 11 (by simp [aftersOf,Region.binds])))
          have gg42:=slot_get g42
          rw [if_pos (by rfl)]
          obtain ⟨zE,zS,zI,zR,zW⟩:=HC6.out w' hB
          clear hA
          go_simp
          refine (l10Effect_spec s.res.done (.slice aw nw cw) (.slice ax nx cx) s.res.rds s.res.wrs w' zR zW HRL.out HWL.out).mono ?_
          rintro e9 w9 ⟨v9,rfl,hF9,hb9⟩
          exact hK v9 w9 (LastJ.step hJ 12 (by omega) hli (by decide) (hM.step 12 (by omega) hli ⟨hv.step 12 43 _ (by simp),hd.step 12 43 _ hli (by simp [allR]),hq.still 12 43 _ hb9 (by simp),ThgJ.make hq v9 (hF9.mono hB.size) (fun b hb=>ownF_blF hF9 b hb) (by simp),hl.before 12 43 _ (by omega) (by omega) hli,(hc.step 12 (by simp [ha 11 (by simp [aftersOf,Region.binds])]))⟩))
        · clear hi;intro o ho lz fz w' A hJ hli ha hA K hK
          have hM:=hJ.now (i:=13) (by omega) hli
          obtain ⟨hv,hd,hq,ht,hl,hc⟩:=hM.now (i:=13) (by omega) hli
          obtain rfl:=Option.some.inj ho
          clear ho
          have hB:=hq.below
          have g34:=slot_in hA 34 (by decide) (by decide) (hv (3,34,(.int .i64 s.stage)) (by simp) (ha 3 (by simp [aftersOf,Region.binds])))
          have g36:=slot_in hA 36 (by decide) (by decide) (hv (5,36,(.int .i64 s.tries)) (by simp) (ha 5 (by simp [aftersOf,Region.binds])))
          have g40:A.tmps.getD 40 undef=fz 40:=slot_in hA 40 (by decide) (by decide) rfl
          have g43:A.tmps.getD 43 undef=fz 43:=slot_in hA 43 (by decide) (by decide) rfl
          have gg34:=slot_get g34
          have gg36:=slot_get g36
          have gg40:=slot_get g40
          have gg43:=slot_get g43
          rw [if_pos (by rfl)]
          have l12:=ha 12 (by simp [aftersOf,Region.binds])
          have l9:=ha 9 (by simp [aftersOf,Region.binds])
          have hF:=hK (.agg (#[.int .i64 s.stage,.int .i64 s.tries,fz 40]++(fz 43).cells)) w' (LastJ.step hJ 13 (by omega) hli (by decide) (hM.step 13 (by omega) hli ⟨hv.step 13 44 _ (by simp),hd.step 13 44 _ hli (by simp [allR,l12,l9]),hq.still 13 44 _ (Below.refl _ _) (by simp),ht.still ownF_keep 13 44 _ (by decide) (by decide) (Below.refl _ _) (by simp),hl.before 13 44 _ (by omega) (by omega) hli,(hc.step 13 (by simp [ha 3 (by simp [aftersOf,Region.binds]),ha 5 (by simp [aftersOf,Region.binds]),ha 9 (by simp [aftersOf,Region.binds]),ha 12 (by simp [aftersOf,Region.binds])]))⟩))
          have o40:=hq.at (t:=(⟨9,none,40,3,1,nv,(s.from_.map (Value.int .i64))⟩:RowT)) (by simp) l9 (by rfl)
          obtain ⟨p40,q40,k40,e40⟩:=slice_form o40
          simp only at e40
          obtain ⟨⟨va,vb,e43,oa,ob,-⟩,-⟩:=ht l12
          obtain ⟨pa,qa,ka,rfl⟩:=slice_form oa
          obtain ⟨pb,qb,kb,rfl⟩:=slice_form ob
          rw [e40] at g40 gg40 hF
          rw [e43] at g43 gg43 hF
          clear hv hq ht hl hc ha hK hA hli hd hB hJ hM o40 oa ob
          go_simp
          exact hF
        · clear hi;intro o ho lz fz w' A hJ hli ha hA K hK
          have hM:=hJ.now (i:=14) (by omega) hli
          obtain ⟨hv,hd,hq,ht,hl,hc⟩:=hM.now (i:=14) (by omega) hli
          obtain rfl:=Option.some.inj ho
          clear ho
          have hB:=hq.below
          have g44:A.tmps.getD 44 undef=fz 44:=slot_in hA 44 (by decide) (by decide) rfl
          have gg44:=slot_get g44
          rw [if_pos (by rfl)]
          have l13:=ha 13 (by simp [aftersOf,Region.binds])
          have l3:=hc (13,[3,5,9,12]) (by simp) l13 3 (by simp)
          have l5:=hc (13,[3,5,9,12]) (by simp) l13 5 (by simp)
          have l9:=hc (13,[3,5,9,12]) (by simp) l13 9 (by simp)
          have l12:=hc (13,[3,5,9,12]) (by simp) l13 12 (by simp)
          have l2:=hc (3,[2]) (by simp) l3 2 (by simp)
          have l4:=hc (5,[4]) (by simp) l5 4 (by simp)
          have l6:=hc (9,[6,8]) (by simp) l9 6 (by simp)
          have l8:=hc (9,[6,8]) (by simp) l9 8 (by simp)
          have l11:=hc (12,[11]) (by simp) l12 11 (by simp)
          have l7:=hc (8,[7]) (by simp) l8 7 (by simp)
          have l10:=hc (11,[10]) (by simp) l11 10 (by simp)
          have hbef:∀ i,2≤i→i < 14→lz i=true:=fun i h1 h2=>by
           rcases (by omega:i=2∨i=3∨i=4∨i=5∨i=6∨i=7∨i=8∨i=9∨i=10∨i=11∨i=12∨i=13) with rfl | rfl | rfl | rfl | rfl | rfl | rfl | rfl | rfl | rfl | rfl | rfl <;> assumption
          have hd44:=(hd (⟨13,44,[(9,40),(12,43)],fun f=>.agg (#[.int .i64 s.stage,.int .i64 s.tries,f 40]++(f 43).cells),fun f g h=>by simp at h;simp [h]⟩:DepT) (by simp) l13).2
          simp only at hd44
          have o40:=hq.at (t:=(⟨9,none,40,3,1,nv,(s.from_.map (Value.int .i64))⟩:RowT)) (by simp) l9 (by rfl)
          obtain ⟨p40,q40,k40,e40⟩:=slice_form o40
          simp only at e40
          obtain ⟨⟨va,vb,e43,oa,ob,-⟩,-⟩:=ht l12
          obtain ⟨pa,qa,ka,rfl⟩:=slice_form oa
          obtain ⟨pb,qb,kb,rfl⟩:=slice_form ob
          rw [e40,e43] at hd44
          have e44:fz 44 = .agg #[.int .i64 s.stage,.int .i64 s.tries,.slice p40 q40 k40,.bool s.res.done,.slice pa qa ka,.slice pb qb kb]:=hd44
          rw [e44] at g44 gg44
          have hF:=hK _ _ (LastJ.step hJ 14 (by omega) hli (by decide) (hM.step 14 (by omega) hli ⟨hv.step 14 45 _ (by simp),hd.step 14 45 _ hli (by simp [allR]),hq.still 14 45 _ ((Below.refl w'.heap.size w').alloc (Nat.le_refl _) _) (by simp),ht.still ownF_keep 14 45 _ (by decide) (by decide) ((Below.refl w'.heap.size w').alloc (Nat.le_refl _) _) (by simp),LitJ.make (T:=75) hbef (by decide) #[.int .i64 s.stage,.int .i64 s.tries,.slice p40 q40 k40,.bool s.res.done,.slice pa qa ka,.slice pb qb kb] (by rw [e44];rfl),(hc.step 14 (by simp [ha 13 (by simp [aftersOf,Region.binds])]))⟩))
          clear hv hq ht hl hc ha hK hA hli hd hB hJ hM o40 oa ob hbef
          go_simp
          exact hF
        · clear hi;intro o ho lz fz w' A hJ hli ha hA K hK
          have hM:=hJ.now (i:=15) (by omega) hli
          obtain ⟨hv,hd,hq,ht,hl,hc⟩:=hM.1 hli
          obtain rfl:=Option.some.inj ho
          clear ho
          have hB:=hq.below
          have g32:=slot_in hA 32 (by decide) (by decide) (hv (1,32,(u4)) (by simp) (ha 1 (by simp [aftersOf,Region.binds])))
          have g45:A.tmps.getD 45 undef=fz 45:=slot_in hA 45 (by decide) (by decide) rfl
          have gg32:=slot_get g32
          have gg45:=slot_get g45
          rw [if_pos (by rfl)]
          have l14:=ha 14 (by simp [aftersOf,Region.binds])
          have l1:=ha 1 (by simp [aftersOf,Region.binds])
          have l0:=hc (1,[0]) (by simp) l1 0 (by simp)
          obtain ⟨hbef,pp,hpp,hpc⟩:=hl l14
          have hall:∀ i,i < 15→lz i=true:=fun i hi=>by
           rcases (by omega:i=0∨i=1∨i=14∨(2≤i∧i < 14)) with rfl | rfl | rfl | ⟨h1,h2⟩
           · exact l0
           · exact l1
           · exact l14
           · exact hbef i h1 h2
          have hd44:=(hd (⟨13,44,[(9,40),(12,43)],fun f=>.agg (#[.int .i64 s.stage,.int .i64 s.tries,f 40]++(f 43).cells),fun f g h=>by simp at h;simp [h]⟩:DepT) (by simp) (hall 13 (by omega))).2
          simp only at hd44
          have o40:=hq.at (t:=(⟨9,none,40,3,1,nv,(s.from_.map (Value.int .i64))⟩:RowT)) (by simp) (hall 9 (by omega)) (by rfl)
          simp only at o40
          obtain ⟨hF43,hap⟩:=ht (hall 12 (by omega))
          have hoff:=fun bb hbb=>(hap bb hbb).2 (⟨9,none,40,3,1,nv,(s.from_.map (Value.int .i64))⟩:RowT) (by simp) (by simp [RowT.live,hall 9 (by omega)])
          simp only at hoff
          rw [hpp] at g45
          rw [hd44] at hpc
          obtain ⟨va,vb,e43,hown,hnw⟩:=copy_app HCP.out hB o40 hF43 hoff HLV0.out
          rw [e43] at hpc
          refine wp_append_litR (.tmp 32) (.tmp 45) 55 rfl w0.heap.size w'.heap.size 75 (.agg #[.int .i64 0,.int .i64 0,.slice none 0 0,.bool false,.slice none 0 0,.slice none 0 0]) 6 96 Tryz.underlying55 infoSlot rfl (by decide) u4 (by rw [slot_eval g32]) k _ (slCs s (fz 40,va,vb)) _ hown pp 75 (by rw [slot_eval g45]) hpc rfl (slCs_one hown) hk4 (by decide) (Nat.le_trans HCP.out.below.size hB.size) (Nat.le_refl _) ?_
          intro v4 w15 hO hg hloc
          have hcp:=copy_app2 HCP.out hB hO hg hloc hown hnw
          exact hK v4 w15 (LastJ.step hJ 15 (by omega) hli (by decide) (MidJ.mid (fun i hi=>hall i hi) ⟨v4,by simp,hcp,fun h16=>by simp at h16 ⊢;exact hv (16,47,(.pointer (some ⟨b,3,none⟩))) (by simp) h16⟩))
        · clear hi;intro o ho lz fz w' A hJ hli ha hA K hK
          have hM:=hJ.now (i:=16) (by omega) hli
          obtain rfl:=Option.some.inj ho
          clear ho
          have g3:=slot_out hA 3 _ (by decide) (by decide) rfl
          simp only [List.getD_cons_succ,List.getD_cons_zero] at g3
          have gg3:=slot_get g3
          rw [if_pos (by rfl)]
          have hF:=hK (.pointer (some ⟨b,3,none⟩)) w' (LastJ.step hJ 16 (by omega) hli (by decide) (hM.both 16 (by omega) (fun hm hP=>by obtain ⟨hv,hd,hq,ht,hl,hc⟩:=hP;exact ⟨hv.step 16 47 _ (by simp),hd.step 16 47 _ hli (by simp [allR]),hq.still 16 47 _ (Below.refl _ _) (by simp),ht.still ownF_keep 16 47 _ (by decide) (by decide) (Below.refl _ _) (by simp),hl.still 16 47 _ (by decide) (by decide) (by decide),hc.step 16 (by simp)⟩) (fun hm hQ=>by obtain ⟨v4,h46,hcp,-⟩:=hQ;exact ⟨v4,by simp [h46],hcp,fun _=>by simp⟩)))
          clear hM hJ ha hK hA hli
          go_simp
          exact hF
        · clear hi;intro o ho lz fz w' A hJ hli ha hA K hK
          have hM:=hJ.now (i:=17) (by omega) hli
          obtain rfl:=Option.some.inj ho
          clear ho
          have hall:∀ k,k < 17→lz k=true:=fun k hk=>ha k (by have hk2:k < 17:=hk;rcases (by omega:k=0∨k=1∨k=2∨k=3∨k=4∨k=5∨k=6∨k=7∨k=8∨k=9∨k=10∨k=11∨k=12∨k=13∨k=14∨k=15∨k=16) with rfl | rfl | rfl | rfl | rfl | rfl | rfl | rfl | rfl | rfl | rfl | rfl | rfl | rfl | rfl | rfl | rfl <;> simp [aftersOf,Region.binds])
          obtain ⟨v4,h46,hcp,h47⟩:=(hM.2 (hall 15 (by omega))).2
          have hv47:=h47 (hall 16 (by omega))
          have g47:A.tmps.getD 47 undef=(.pointer (some ⟨b,3,none⟩)):=slot_in hA 47 (by decide) (by decide) hv47
          have g46:A.tmps.getD 46 undef=v4:=slot_in hA 46 (by decide) (by decide) h46
          have gg47:=slot_get g47
          obtain ⟨z1,z2,z3,rfl⟩:=hcp.form
          have gg46:=slot_get g46
          have hcb:=hcp.eg.c3
          have hfb:=hcp.eg.f3
          rw [if_pos (by rfl)]
          have hF:=hK undef _ (LastJ.last (fun i hi hne=>hall i (by omega)) ⟨_,w',hcp,rfl⟩)
          clear hM hJ ha hK hA hli hall hcp
          go_simp
          exact hF
      · intro lz fz w6 hall hJ
        obtain ⟨v4,w15,hcp,rfl⟩:=(hJ.2 (hall 17 (by decide))).2
        simp only [mixF,List.contains_cons,List.contains_nil]
        go_simp
        rw [HS.out] at hcp
        obtain ⟨ts',hcpn⟩:=hcp.store (by rw [HL4.out];exact hlt)
        obtain ⟨w16,hw16⟩:∃ W,W=w15.setCell ⟨b,3,none⟩ v4:=⟨_,rfl⟩
        rw [← hw16] at hcpn ⊢
        have HNX:=Lib.hid hcpn
        clear hcp hcpn hw16 hall hJ HC6 HCP
        go_wp2
        go_roundw
        case rel=>exact ⟨k+1,v4,ts',by go_num,HNX.out⟩
        case measure=>simp [intOf];omega
    · obtain rfl:n4=k:=by omega
      obtain ⟨p4,q4,k4,e4⟩:=slice_form (hcp.own.own ⟨u4,75,6,(e.slots.take n4).length,slsCs (e.slots.take n4) ts⟩ (List.mem_cons_of_mem _ (List.mem_cons_of_mem _ (List.mem_cons_of_mem _ List.mem_cons_self))))
      simp only at e4
      subst e4
      obtain ⟨y0,y1,y2,y3,-⟩:=hcp.eg
      have hZ:=HZ2.out wr hcp.below
      have hbw:=HB0.out.trans (hcp.below.mono HB0.out.size)
      have HE:=Lib.hid (hZ.set4 (.slice p1 q1 k1) (.slice p2 q2 k2) (.slice p3 q3 k3) (.slice p4 q4 k4))
      have HBF:Hid (Below w.heap.size w (set4 wr (w.heap.size+1) (.slice p1 q1 k1) (.slice p2 q2 k2) (.slice p3 q3 k3) (.slice p4 q4 k4))):=Lib.hid ((set4_turn wr (w.heap.size+1) _ _ _ _).below hbw (Nat.le_succ _) hbw.size)
      have HO:Hid (EngOwn (set4 wr (w.heap.size+1) (.slice p1 q1 k1) (.slice p2 q2 k2) (.slice p3 q3 k3) (.slice p4 q4 k4)) w.heap.size (set4 wr (w.heap.size+1) (.slice p1 q1 k1) (.slice p2 q2 k2) (.slice p3 q3 k3) (.slice p4 q4 k4)).heap.size tEng (.slice p1 q1 k1) (.slice p2 q2 k2) (.slice p3 q3 k3) (.slice p4 q4 k4) e ts):=Lib.hid (by
       have e5:e.slots.take n4=e.slots:=List.take_of_length_le (by rw [HL4.out];exact Nat.le_refl _)
       have ho:=hcp.own
       rw [e5] at ho
       refine ⟨by rw [hcp.tl,HL4.out],?_,HWF.out⟩
       exact (ho.turn (set4_turn wr (w.heap.size+1) _ _ _ _) (.inr (.inl (by omega)))).mono (by omega) (by rw [set4_size];exact Nat.le_refl _))
      unfold set4 at HE HBF HO
      obtain ⟨x0,x1,x2,x3,f0,f1,f2,f3⟩:=hZ
      clear hcp hbw k0' k1' k2'
      go_wp2_with fail
      refine bodyPost_ret (results_eng Tryz.results123 _ (by rfl) HE.out) rfl ⟨_,_,_,_,_,rfl,HO.out,HBF.out⟩
end Go.Proofs.YtaaffpolmecicabGreat
/- More of what a store does to an owned engine. -/
namespace Go.Proofs.YtaaffpolmecicabGreat
open Go.RowKit
set_option linter.unusedVariables false
set_option linter.unusedSimpArgs false
theorem below_stored {B Z:Nat} {a w:World} (h:Below B a w) (hZ:B≤Z) (k:Nat) (v:Value):Below B a (w.setCell ⟨Z,k,none⟩ v):=h.setCell hZ v
theorem st6_cell {w:World} {g n A o:Nat} {s:Slt} {t:Value × Value × Value} {v:Value} (hne:A≠g) (hc:w.cell? ⟨A,o,none⟩=some v):(st6 w g n s t).cell? ⟨A,o,none⟩=some v :=
 (World.cell?_of_block (a:=⟨A,o,none⟩) (st6_heap w g n s t hne)).trans hc
theorem EngOwn.slots {w:World} {B T:Nat} {t0:EngT} {x1 x2 x3 x4:Value} {e:Eng} {ts:List (Value × Value × Value)} (h:EngOwn w B T t0 x1 x2 x3 x4 e ts) :
  w.ownsRow B t0.tS 6 x4 e.slots.length (slsCs e.slots ts)∧(∀ b,blk x4=some b→B≤b∧b < T∧b < w.heap.size):=by
 have hm:(⟨x4,t0.tS,6,e.slots.length,slsCs e.slots ts⟩:Rw)∈engRs t0 x1 x2 x3 x4 e ts:=by simp [engRs]
 exact ⟨h.own.own _ hm,fun b hb=>h.own.ge hm hb⟩
theorem slot_cells {w:World} {B T:Nat} {t0:EngT} {x1 x2 x3:Value} {b:Option Addr} {m c:Nat} {e:Eng} {ts:List (Value × Value × Value)} (h:EngOwn w B T t0 x1 x2 x3 (.slice b m c) e ts) {n:Nat} (hn:n < e.slots.length) :
  ∃ g,b=some ⟨g,0,none⟩∧m=e.slots.length∧(B≤g∧g < T∧g < w.heap.size)∧(∀ j,w.frozen? ⟨g,j,none⟩=false)∧∀ i,i < 6→∃ v,w.cell? ⟨g,n*6+i,none⟩=some v:=by
 obtain ⟨ho,hb⟩:=h.slots
 obtain ⟨g,rfl,rfl⟩:∃ g,b=some ⟨g,0,none⟩∧m=e.slots.length:=by
  rcases slice_of_owns ho with ⟨h1,h2⟩ | ⟨g,cap,h1,-⟩
  · rw [h2] at hn;omega
  · simp only [Value.slice.injEq] at h1;exact ⟨g,h1.1,h1.2.1⟩
 refine ⟨g,rfl,rfl,hb g rfl,fun j=>World.ownsRow.frozenAt ho j,fun i hi=>⟨_,(World.ownsRow.cellAt ho (n*6+i) (by omega)).trans (by rw [slsCs_get h.tl hn hi];exact List.getElem?_eq_getElem (by simpa [slCs] using hi))⟩⟩
theorem eng_slot_mem {t0:EngT} {x1 x2 x3 x4:Value} {e:Eng} {ts:List (Value × Value × Value)} (hl:ts.length=e.slots.length) {n:Nat} (hn:n < e.slots.length) {s:Slt} {t:Value × Value × Value} :
  ∀ r∈engRs t0 x1 x2 x3 x4 ⟨e.base,e.list,e.vers,e.slots.set n s⟩ (ts.set n t),r∈slRs t0.tI t0.tE s t∨∃ r'∈engRs t0 x1 x2 x3 x4 e ts,r'.v=r.v:=by
 intro r hr
 unfold engRs at hr ⊢
 simp only [List.mem_cons] at hr ⊢
 rw [rs_set hl hn,List.mem_append,List.mem_append] at hr
 have hat:∀ r,r∈rsB t0.tI t0.tE e.slots ts n∨r∈rsA t0.tI t0.tE e.slots ts n→r∈slsRs t0.tI t0.tE e.slots ts:=fun r hr=>by
  rw [slsRs_at hl hn,List.mem_append,List.mem_append]
  rcases hr with h | h
  · exact .inl h
  · exact .inr (.inr h)
 rcases hr with rfl | rfl | rfl | rfl | h | h | h
 · exact .inr ⟨_,.inl rfl,rfl⟩
 · exact .inr ⟨_,.inr (.inl rfl),rfl⟩
 · exact .inr ⟨_,.inr (.inr (.inl rfl)),rfl⟩
 · exact .inr ⟨_,.inr (.inr (.inr (.inl rfl))),rfl⟩
 · exact .inr ⟨r,.inr (.inr (.inr (.inr (hat r (.inl h))))),rfl⟩
 · exact .inl h
 · exact .inr ⟨r,.inr (.inr (.inr (.inr (hat r (.inr h))))),rfl⟩
theorem EngOwn.storeZ {w:World} {B T:Nat} {t:EngT} {v1 v2 v3 v4:Value} {e:Eng} {ts:List (Value × Value × Value)} (h:EngOwn w B T t v1 v2 v3 v4 e ts) {Z:Nat} (ha:∀ r∈engRs t v1 v2 v3 v4 e ts,blk r.v≠some Z) (o:Nat) (x:Value) :
  EngOwn (w.setCell ⟨Z,o,none⟩ x) B T t v1 v2 v3 v4 e ts :=
 ⟨h.tl,h.own.keep fun r hr b hb=>Below.heap_setCell _ _ _ _ (fun hh=>ha r hr (by rw [hb,hh])),h.wf⟩
theorem eng_slot_off {w:World} {B T T1 T2:Nat} {t0:EngT} {x1 x2 x3 x4:Value} {e:Eng} {ts:List (Value × Value × Value)} (h:EngOwn w B T t0 x1 x2 x3 x4 e ts) {n:Nat} (hn:n < e.slots.length) {s:Slt} {t:Value × Value × Value}
  (hnew:OwnR w T1 T2 (slRs t0.tI t0.tE s t)) {Z:Nat} (h1:T≤Z) (h2:Z < T1) :
  ∀ r∈engRs t0 x1 x2 x3 x4 ⟨e.base,e.list,e.vers,e.slots.set n s⟩ (ts.set n t),blk r.v≠some Z:=by
 intro r hr hb
 rcases eng_slot_mem h.tl hn r hr with h' | ⟨r',hr',hv⟩
 · have:=(hnew.ge h' hb).1;omega
 · have:=(h.own.ge hr' (b:=Z) (by rw [hv];exact hb)).2.1;omega
def EffF (w4 F:World) (E:Nat) (b:Bool) (v u:Value) (R:List Rw):Prop :=
 Below w4.heap.size w4 F∧EAt F E b v u∧OwnR F w4.heap.size F.heap.size R∧w4.heap.size≤E
theorem effF_alloc {w4 w7:World} {T:TypeId} {b:Bool} {v u:Value} {R:List Rw} (h:Below w4.heap.size w4 w7) (ho:OwnR w7 w4.drew.heap.size w7.heap.size R) :
  EffF w4 (w7.alloc (.cells #[.bool b,v,u] T)) w7.heap.size b v u R :=
 ⟨h.alloc h.size _,eAt_new _ _ _ _ _,(OwnR.below (show OwnR w7 w4.heap.size w7.heap.size R from ho) ((Below.refl _ _).alloc (Nat.le_refl _) _)).mono (Nat.le_refl _) (by simp),h.size⟩
theorem effF_set {w4 w7:World} {o:Obj} {b b0:Bool} {v u v0 u0:Value} {R:List Rw} (h:Below w4.heap.size w4 w7) (he:EAt w7 w4.heap.size b0 v0 u0) (ho:OwnR w7 (w4.alloc o).drew.heap.size w7.heap.size R) :
  EffF w4 (((w7.setCell ⟨w4.heap.size,0,none⟩ (.bool b)).setCell ⟨w4.heap.size,1,none⟩ v).setCell ⟨w4.heap.size,2,none⟩ u) w4.heap.size b v u R:=by
 have ho':OwnR w7 (w4.heap.size+1) w7.heap.size R:=by
  have:=ho
  rwa [show (w4.alloc o).drew.heap.size=w4.heap.size+1 from World.size_alloc _ _] at this
 refine ⟨below_stored (below_stored (below_stored h (Nat.le_refl _) _ _) (Nat.le_refl _) _ _) (Nat.le_refl _) _ _,((he.set0 b).set1 v).set2 u,?_,Nat.le_refl _⟩
 refine (ho'.keep (fun r hr q hq=>?_)).mono (by omega) (by simp [World.setCell])
 have hne:q≠w4.heap.size:=by have:=(ho'.ge hr hq).1;omega
 rw [Below.heap_setCell _ _ _ _ (by simpa using hne),Below.heap_setCell _ _ _ _ (by simpa using hne),Below.heap_setCell _ _ _ _ (by simpa using hne)]
theorem own_storeZ {w:World} {B:Nat} {e:TypeId} {size n:Nat} {v:Value} {xs:List Value} (h:Own w B e size v n xs) {Z:Nat} (hZ:Z < B) (o:Nat) (x:Value):Own (w.setCell ⟨Z,o,none⟩ x) B e size v n xs :=
 h.grown (row:=some Z) ⟨rfl,rfl,rfl,by simp [World.setCell],fun k _ hk=>Below.heap_setCell _ _ _ _ (fun hh=>hk (by rw [hh]))⟩ (fun k hk=>by simp only [Option.some.injEq] at hk;omega)
theorem gt_no {m:Nat} (h:m=0):decide ((0:Int) < (m:Int))=false∧decide (0 < m)=false:=by subst h;decide
theorem gt_yes {m:Nat} (h:0 < m):decide ((0:Int) < (m:Int))=true∧decide (0 < m)=true:=by constructor <;> simp <;> omega
theorem ownR_nil3 (w:World) (B T:Nat) (tI tE:TypeId) (tr:Int):OwnR w B T (slRs tI tE ⟨0,tr,[],noEff⟩ (.slice none 0 0,.slice none 0 0,.slice none 0 0)) :=
 (OwnR.nil w B T).addNils _ (fun r hr=>by
  simp only [slRs,List.mem_cons,List.not_mem_nil,or_false] at hr
  rcases hr with rfl | rfl | rfl <;> exact ⟨rfl,rfl,rfl⟩)
theorem slWf_zero {tr:Int} (h:(Lit.int .i64 tr).wf=true):SlWf ⟨0,tr,[],noEff⟩ :=
 ⟨by rfl,h,fun x hx=>(by cases hx),fun x hx=>(by cases hx),fun x hx=>(by cases hx),by simp,by simp [noEff],by simp [noEff]⟩
end Go.Proofs.YtaaffpolmecicabGreat
/- The contract of the model's l11Step. -/
namespace Go.Proofs.YtaaffpolmecicabGreat
open Go.RowKit
set_option linter.unusedVariables false
set_option linter.unusedSimpArgs false
def NewEngB (w:World) (t:EngT) (p:Eng × Bool) (en:Ending) (w':World):Prop :=
 ∃ v1 v2 v3 v4 ts,en = .returned (.tuple #[.agg #[v1,v2,v3,v4],.bool p.2])∧EngOwn w' w.heap.size w'.heap.size t v1 v2 v3 v4 p.1 ts∧Below w.heap.size w w'
theorem results_engB {fn:Func} {p q:Tmp} (h:fn.results=#[.cell p 57,.tmp q]) (tmps:Array Value) {F:World} {Z:Nat} (hp:tmps.getD p undef = .pointer (some ⟨Z,0,none⟩)) {v1 v2 v3 v4:Value} (hc:EgAt F Z v1 v2 v3 v4) (x:Value) (hq:tmps.getD q undef=x):(results fn tmps).run Tryz.prog F = .ok (.tuple #[.agg #[v1,v2,v3,v4],x]) F:=by
 have hp':tmps[p]?.getD undef = .pointer (some ⟨Z,0,none⟩):=by simpa using hp
 have hq':tmps[q]?.getD undef=x:=by simpa using hq
 obtain ⟨c0,c1,c2,c3,-⟩:=hc
 simp [results,h,hp',hq',asAddr,go_sem,c0,c1,c2,c3]
theorem newEng_formS {w:World} {B T:Nat} {t:EngT} {v1 v2 v3 v4:Value} {e:Eng} {ts:List (Value × Value × Value)} (h:EngOwn w B T t v1 v2 v3 v4 e ts):∃ b1 m1 d1 b2 m2 d2 b3 m3 d3 b4 m4 d4,v1 = .slice b1 m1 d1∧v2 = .slice b2 m2 d2∧v3 = .slice b3 m3 d3∧v4 = .slice b4 m4 d4:=by
 obtain ⟨⟨b1,m1,d1,rfl,-⟩,⟨b2,m2,d2,rfl,-⟩,⟨b3,m3,d3,rfl,-⟩,b4,m4,d4,rfl,-⟩:=h.rd
 exact ⟨b1,m1,d1,b2,m2,d2,b3,m3,d3,b4,m4,d4,rfl,rfl,rfl,rfl⟩
theorem fin_eng {w W:World} {Z B T:Nat} {x1 x2 x3 x4 y1 y2 y3 y4:Value} {e:Eng} {ts:List (Value × Value × Value)} (hZ:EgAt W Z y1 y2 y3 y4) (ho:EngOwn W B T tEng x1 x2 x3 x4 e ts) (h1:Z < B) (hb:Below w.heap.size w W) (h2:w.heap.size≤Z) (hT:T≤W.heap.size) :
  EgAt (set4 W Z x1 x2 x3 x4) Z x1 x2 x3 x4∧EngOwn (set4 W Z x1 x2 x3 x4) w.heap.size (set4 W Z x1 x2 x3 x4).heap.size tEng x1 x2 x3 x4 e ts∧Below w.heap.size w (set4 W Z x1 x2 x3 x4):=by
 refine ⟨hZ.set4 _ _ _ _,⟨ho.tl,?_,ho.wf⟩,(set4_turn W Z _ _ _ _).below hb h2 hb.size⟩
 exact (ho.own.turn (set4_turn W Z _ _ _ _) (.inr (.inl h1))).mono (by omega) (by rw [set4_size];exact hT)
theorem EngOwn.turn {w w':World} {B T B' T':Nat} {t:EngT} {v1 v2 v3 v4:Value} {e:Eng} {ts:List (Value × Value × Value)} (h:EngOwn w B T t v1 v2 v3 v4 e ts) (ht:Turn B' T' w w') (hd:T≤B'∨T'≤B∨w.heap.size≤B'):EngOwn w' B T t v1 v2 v3 v4 e ts:=⟨h.tl,h.own.turn ht hd,h.wf⟩
theorem eAt_newS (w:World) (T:TypeId):EAt (w.alloc (.cells #[.bool false,.slice none 0 0,.slice none 0 0] T)) w.heap.size false (.slice none 0 0) (.slice none 0 0):=by
 refine ⟨⟨?_,?_,?_⟩,⟨?_,?_,?_⟩,by simp⟩ <;> simp [go_sem]
theorem stepL_no {e:Eng} {n:Int} (h:inB n 0 ((e.slots.length:Int) - 1)=false):stepL e n=(e,false):=by unfold stepL;rw [h];rfl
theorem stepL_yes {e:Eng} {m:Nat} (h:m < e.slots.length):stepL e (m:Int)=stepN e m:=by
 unfold stepL;rw [inB_yes (by omega) (by omega)];simp
set_option maxRecDepth 100000 in
set_option maxHeartbeats 8000000 in
theorem l11Step_spec (v1 v2 v3 v4:Value) (e:Eng) (n:Int) (w:World) (h:EngRd w v1 v2 v3 v4 e) (hok:EngOk e) (hnw:(Lit.int .i64 n).wf=true) :
  Calls Tryz.prog 120 #[.agg #[v1,v2,v3,v4],.int .i64 n] w (NewEngB w tEng (stepL e n)):=by
 have hwf:=engWf_ok hok
 have HOK:=Lib.hid hok
 have hten:=hok.ten
 have hb0:=((Below.refl w.heap.size w).alloc (Nat.le_refl _) (.cells #[v1,v2,v3,v4] 57)).alloc (by simp) (.cells #[.slice none 0 0,.slice none 0 0,.slice none 0 0,.slice none 0 0] 57)
 have hg0:=(egAt_new w 57 v1 v2 v3 v4).below ((Below.refl _ _).alloc (Nat.le_refl _) (.cells #[.slice none 0 0,.slice none 0 0,.slice none 0 0,.slice none 0 0] 57))
 have hg1:=egAt_new (w.alloc (.cells #[v1,v2,v3,v4] 57)) 57 (.slice none 0 0) (.slice none 0 0) (.slice none 0 0) (.slice none 0 0)
 rw [World.size_alloc] at hg1
 have HR0:=Lib.hid h
 obtain ⟨⟨a1,n1,c1,rfl,hr1,-,-⟩,⟨a2,n2,c2,rfl,hr2,-,-⟩,⟨a3,n3,c3,rfl,hr3,-,-⟩,a4,n4,c4,rfl,hr4,-,-⟩:=h
 obtain ⟨W1,hW1⟩:∃ W1,W1=(w.alloc (.cells #[.slice a1 n1 c1,.slice a2 n2 c2,.slice a3 n3 c3,.slice a4 n4 c4] 57)).alloc (.cells #[.slice none 0 0,.slice none 0 0,.slice none 0 0,.slice none 0 0] 57):=⟨_,rfl⟩
 have hz1:W1.heap.size=w.heap.size+2:=by rw [hW1];simp
 have HW1:=Lib.hid hW1
 rw [← hW1] at hb0 hg0 hg1
 clear hW1
 have hl4:=hr4.1
 have HL4:=Lib.hid hl4
 have hl2:=hr2.1
 have hn10:n4≤10:=by rw [← hl4];exact hten
 have hkk:∀ W',Below W1.heap.size W1 W'→EgAt W' w.heap.size (.slice a1 n1 c1) (.slice a2 n2 c2) (.slice a3 n3 c3) (.slice a4 n4 c4)∧EgAt W' (w.heap.size+1) (.slice none 0 0) (.slice none 0 0) (.slice none 0 0) (.slice none 0 0)∧EngRd W' (.slice a1 n1 c1) (.slice a2 n2 c2) (.slice a3 n3 c3) (.slice a4 n4 c4) e∧Below w.heap.size w W'∧(RowE W' a1 n1 e.base∧RowA W' a2 n2 e.list∧RowV W' a3 n3 e.vers∧RowSl W' a4 n4 e.slots):=fun W' hb =>
  ⟨hg0.below hb,hg1.below hb,(HR0.out.below hb0).below hb,hb0.trans (hb.mono hb0.size),(hr1.below hb0).below hb,(hr2.below hb0).below hb,(hr3.below hb0).below hb,(hr4.below hb0).below hb⟩
 have HKK:=Lib.hid hkk
 have HZ1:=Lib.hid hz1
 have hnb:=wf_i64_bd hnw
 have HLEN:Hid (e.list.length=n2∧e.slots.length=e.list.length):=Lib.hid ⟨hl2,hok.len⟩
 clear hkk hr1 hr2 hr3 hr4 hb0 hg0 hg1 HR0 hl4 hl2 hz1 hten
 go_enter Tryz.func120,Tryz.ntmps120
 go_upto_region 1 with (fail)
 rw [← HW1.out]
 clear HW1
 obtain ⟨⟨k0,k1,k2,k3,-,-,-,-⟩,-,kr,-,-⟩:=HKK.out W1 (Below.refl _ _)
 go_wp2_with fail
 refine (l10Copy_spec _ _ _ _ e _ kr hwf.blen hwf.llen hwf.vlen hwf).mono ?_;rintro e1 w2 ⟨x1,x2,x3,x4,ts,rfl,ho2,hb2⟩
 obtain ⟨b1,m1,d1,b2,m2,d2,b3,m3,d3,b4,m4,d4,rfl,rfl,rfl,rfl⟩:=newEng_formS ho2
 have HO2:=Lib.hid ho2
 have HB2:=Lib.hid hb2
 clear k0 k1 k2 k3 kr ho2 hb2 hwf
 go_upto_region 2 with (fail)
 generalize hw3:World.alloc _ _=w3
 have hb3:Below w2.heap.size w2 w3:=by rw [← hw3];exact (Below.refl _ _).alloc (Nat.le_refl _) _
 have hz3:w3.heap.size=w2.heap.size+1:=by rw [← hw3];simp
 have hZ2:EgAt w3 w2.heap.size (.slice b1 m1 d1) (.slice b2 m2 d2) (.slice b3 m3 d3) (.slice b4 m4 d4):=by rw [← hw3];exact egAt_new w2 _ _ _ _ _
 have HO3:=Lib.hid (HO2.out.below hb3)
 have HB3:=Lib.hid (HB2.out.trans (hb3.mono HB2.out.size))
 have HS3:Hid (W1.heap.size≤w2.heap.size∧w3.heap.size=w2.heap.size+1∧W1.heap.size=w.heap.size+2):=Lib.hid ⟨HB2.out.size,hz3,HZ1.out⟩
 clear hw3 hb3 hz3 HO2 HB2 HZ1
 obtain ⟨Z2,hZ2e⟩:∃ Z,Z=w2.heap.size:=⟨_,rfl⟩
 rw [← hZ2e] at hZ2 HO3 HS3 ⊢
 clear hZ2e
 have HZ2:=Lib.hid hZ2
 obtain ⟨k0,k1,k2,k3,-,-,-,-⟩:=(HKK.out w3 HB3.out).1
 obtain ⟨y0,y1,y2,y3,g0,g1,g2,g3⟩:=hZ2
 have ew:IntKind.i64.wrap ((n4:Int) - 1)=(n4:Int) - 1:=IntWalk.i64_in _ (by omega)
 go_wp2_with fail
 refine (l1In_spec_hid n 0 ((n4:Int) - 1) _).mono ?_;rintro e1 w' ⟨rfl,rfl⟩
 have HFIN:Hid (∀ W,Below w3.heap.size w3 W→EgAt (set4 W (w.heap.size+1) (.slice b1 m1 d1) (.slice b2 m2 d2) (.slice b3 m3 d3) (.slice b4 m4 d4)) (w.heap.size+1) (.slice b1 m1 d1) (.slice b2 m2 d2) (.slice b3 m3 d3) (.slice b4 m4 d4)∧EngOwn (set4 W (w.heap.size+1) (.slice b1 m1 d1) (.slice b2 m2 d2) (.slice b3 m3 d3) (.slice b4 m4 d4)) w.heap.size (set4 W (w.heap.size+1) (.slice b1 m1 d1) (.slice b2 m2 d2) (.slice b3 m3 d3) (.slice b4 m4 d4)).heap.size tEng (.slice b1 m1 d1) (.slice b2 m2 d2) (.slice b3 m3 d3) (.slice b4 m4 d4) e ts∧Below w.heap.size w (set4 W (w.heap.size+1) (.slice b1 m1 d1) (.slice b2 m2 d2) (.slice b3 m3 d3) (.slice b4 m4 d4))):=Lib.hid (fun W hb=>by
  have hk:=HKK.out W (HB3.out.trans (hb.mono HB3.out.size))
  have hs:=HS3.out
  have:=hb.size
  exact fin_eng hk.2.1 (HO3.out.below hb) (by omega) hk.2.2.2.1 (by omega) (by omega))
 cases hin:inB n 0 ((n4:Int) - 1) with
 | false =>
  have HF:=Lib.hid (stepL_no (e:=e) (n:=n) (by rw [HL4.out];exact hin))
  obtain ⟨hE,hO,hB⟩:=HFIN.out _ (Below.refl _ _)
  obtain ⟨x0,x1,x2,x3,f0,f1,f2,f3⟩:=(HKK.out _ HB3.out).2.1
  have HE:=Lib.hid hE
  have HO:=Lib.hid hO
  have HB:=Lib.hid hB
  unfold set4 at HE HO HB
  clear hin hE hO hB HFIN k0 k1 k2 k3
  go_wp2_with fail
  refine bodyPost_ret (results_engB Tryz.results120 _ (by rfl) HE.out _ (by rfl)) rfl ⟨_,_,_,_,_,by rw [HF.out];rfl,by rw [HF.out];exact HO.out,HB.out⟩
 | true =>
  have hmb:=inB_true hin
  obtain ⟨m,rfl⟩:∃ m:Nat,n=(m:Int):=⟨n.toNat,by omega⟩
  have hm:m < n4:=by omega
  have HF:=Lib.hid (stepL_yes (e:=e) (m:=m) (by rw [HL4.out];exact hm))
  clear hin hmb hnw hnb
  obtain ⟨b4',o4',rfl,hsl⟩:=(HKK.out _ HB3.out).2.2.2.2.2.2.2.at m hm
  have hslot:=HOK.out.slot m (by rw [HL4.out];exact hm)
  have HACT:=Lib.hid (HOK.out.act (k:=m) (by rw [HL4.out];exact hm))
  have HSN:Hid (stepN e m=if (e.slots.getD m noSlt).stage=0 then (if (e.slots.getD m noSlt).tries=1000 then (e,false) else (e.put m ⟨1,(e.slots.getD m noSlt).tries+1,(tryM e.base e.vers (e.list.getD m noA) m).2,(tryM e.base e.vers (e.list.getD m noA) m).1⟩ (putL e.vers m (tryM e.base e.vers (e.list.getD m noA) m).1.wrs),true)) else if (e.slots.getD m noSlt).stage=1 then (if m≠0∧stg e (m - 1)≠2 then (e,false) else if sameB e m=true then (e.put m ⟨2,(e.slots.getD m noSlt).tries,(e.slots.getD m noSlt).from_,(e.slots.getD m noSlt).res⟩ e.vers,true) else (e.put m ⟨0,(e.slots.getD m noSlt).tries,[],noEff⟩ (dropL e.vers m),true)) else (e,false)):=Lib.hid rfl
  have HSL:=Lib.hid hslot
  obtain ⟨s,hs⟩:∃ s,s=e.slots.getD m noSlt:=⟨_,rfl⟩
  rw [← hs] at hsl HSN HSL
  have HSE:=Lib.hid hs
  clear hs hslot
  obtain ⟨s0,s1,⟨v2,s2,av,nv,cv,rfl,-,-,-⟩,s3,⟨v4,s4,aw,nw,cw,rfl,-,-,-⟩,v5,s5,ax,nx,cx,rfl,-,-,-⟩:=hsl
  have i1:(0:Int)≤(m:Int):=by omega
  have i2:(m:Int) < (n4:Int):=by omega
  go_upto_region 5 with (fail)
  generalize hw4:World.alloc _ _=w4
  have hb4:Below w3.heap.size w3 w4:=by rw [← hw4];exact (Below.refl _ _).alloc (Nat.le_refl _) _
  have hz4:w4.heap.size=w3.heap.size+1:=by rw [← hw4];simp
  have pc0:w4.cell? ⟨w3.heap.size,0,none⟩=some (.int .i64 s.stage):=by rw [← hw4];simp [go_sem]
  have pc1:w4.cell? ⟨w3.heap.size,1,none⟩=some (.int .i64 s.tries):=by rw [← hw4];simp [go_sem]
  have HB4:=Lib.hid (HB3.out.trans (hb4.mono HB3.out.size))
  have HB34:=Lib.hid hb4
  have HO4:=Lib.hid (HO3.out.below hb4)
  have HZ24:=Lib.hid (HZ2.out.below hb4)
  have HZ4:=Lib.hid hz4
  clear hw4 hb4 hz4 s0 s1 s2 s3 s4 s5 k0 k1 k2 k3 y0 y1 y2 y3 g0 g1 g2 g3 HO3 HZ2 HB3
  obtain ⟨Z3,hZ3⟩:∃ Z,Z=w3.heap.size:=⟨_,rfl⟩
  rw [← hZ3] at pc0 pc1 HZ4 HS3 ⊢
  clear hZ3
  obtain ⟨k0,k1,k2,k3,-,-,-,-⟩:=(HKK.out w4 HB4.out).1
  obtain ⟨x0,x1,x2,x3,f0,f1,f2,f3⟩:=(HKK.out w4 HB4.out).2.1
  obtain ⟨y0,y1,y2,y3,g0,g1,g2,g3⟩:=HZ24.out
  -- the engine stays
  have HSTAY:Hid (stepN e m=(e,false)→EgAt (set4 w4 (w.heap.size+1) (.slice b1 m1 d1) (.slice b2 m2 d2) (.slice b3 m3 d3) (.slice b4 m4 d4)) (w.heap.size+1) (.slice b1 m1 d1) (.slice b2 m2 d2) (.slice b3 m3 d3) (.slice b4 m4 d4)∧EngOwn (set4 w4 (w.heap.size+1) (.slice b1 m1 d1) (.slice b2 m2 d2) (.slice b3 m3 d3) (.slice b4 m4 d4)) w.heap.size (set4 w4 (w.heap.size+1) (.slice b1 m1 d1) (.slice b2 m2 d2) (.slice b3 m3 d3) (.slice b4 m4 d4)).heap.size tEng (.slice b1 m1 d1) (.slice b2 m2 d2) (.slice b3 m3 d3) (.slice b4 m4 d4) (stepL e m).1 ts∧Below w.heap.size w (set4 w4 (w.heap.size+1) (.slice b1 m1 d1) (.slice b2 m2 d2) (.slice b3 m3 d3) (.slice b4 m4 d4))∧(stepL e m).2=false):=Lib.hid (fun hh=>by
   obtain ⟨q1,q2,q3⟩:=HFIN.out w4 HB34.out
   rw [HF.out,hh]
   exact ⟨q1,q2,q3,rfl⟩)
  clear HFIN
  obtain ⟨st,hst⟩:∃ st,st=s.stage:=⟨_,rfl⟩
  obtain ⟨tr,htr⟩:∃ tr,tr=s.tries:=⟨_,rfl⟩
  rw [← hst,← htr] at HSN
  rw [← hst] at pc0
  rw [← htr] at pc1
  have HST:=Lib.hid hst
  have HTR:=Lib.hid htr
  clear hst htr
  by_cases e0:st=0
  · subst e0
    by_cases e1:tr=1000
    · obtain ⟨hE,hO,hB,hF⟩:=HSTAY.out (by rw [HSN.out,if_pos rfl,if_pos e1])
      have t1:(tr == 1000)=true:=by simpa using e1
      have HE:=Lib.hid hE
      have HO:=Lib.hid hO
      have HB:=Lib.hid hB
      have HFF:=Lib.hid hF
      unfold set4 at HE HO HB
      clear hE hO hB hF HSTAY HSN e1
      go_wp2_with fail
      refine bodyPost_ret (results_engB Tryz.results120 _ (by rfl) HE.out _ (by rfl)) rfl ⟨_,_,_,_,_,by rw [HFF.out];rfl,HO.out,HB.out⟩
    · have t1:(tr == 1000)=false:=by simpa using e1
      have HSN2:=Lib.hid (HSN.out.trans ((if_pos rfl).trans (if_neg e1)))
      clear HSTAY HSN e1
      have hn2:m < n2:=by have:=HLEN.out;rw [HL4.out] at this;omega
      obtain ⟨ba,oa,hae,hac⟩:=(HKK.out w4 HB4.out).2.2.2.2.2.1.2.2.1 (by omega)
      subst hae
      obtain ⟨q0,q1,q2,q3⟩:=hac m hn2
      have HLA:Hid (e.list.getD m noA=e.list.getD m noA):=Lib.hid rfl
      obtain ⟨X,hX⟩:∃ X,X=e.list.getD m noA:=⟨_,rfl⟩
      rw [← hX] at q0 q1 q2 q3 HACT HSN2
      have HXE:=Lib.hid hX
      clear hX hac HLA
      obtain ⟨kd,sr,ds,am⟩:=X
      simp only at q0 q1 q2 q3
      have i3:(m:Int) < (n2:Int):=by omega
      have hbs:ba < w4.heap.size:=World.block_lt_of_cell? w4 ⟨ba,oa+m*4,none⟩ q0
      have hzw:w.heap.size < w4.heap.size:=by have:=HS3.out;have:=HZ4.out;omega
      have HKP:=Lib.hid (fun W' (hb:Below w4.heap.size w4 W')=>(⟨⟨below_cs hb hzw k0,below_cs hb hzw k1,below_cs hb hzw k2⟩,below_cs hb hbs q0,below_cs hb hbs q1,below_cs hb hbs q2,below_cs hb hbs q3⟩:(_∧_∧_)∧_∧_∧_∧_))
      have HTY:=Lib.hid (fun (W:World) (hb:Below w4.heap.size w4 W)=>l10Try_spec a1 n1 c1 e.base kd sr ds am a3 n3 c3 e.vers m W (HKK.out W (HB4.out.trans (hb.mono HB4.out.size))).2.2.2.2.1 (HKK.out W (HB4.out.trans (hb.mono HB4.out.size))).2.2.2.2.2.2.1 HOK.out.base HOK.out.vok HACT.out)
      obtain ⟨Y,hY⟩:∃ Y,Y=tryM e.base e.vers ⟨kd,sr,ds,am⟩ m:=⟨_,rfl⟩
      rw [← hY] at HTY HSN2
      have HYE:=Lib.hid hY
      clear hY hbs hzw
      obtain ⟨YE,YF⟩:=Y
      go_upto_region 9 with (fail)
      go_region_held3 (fun w'=>(w'.cell? ⟨w.heap.size,0,none⟩=some (.slice a1 n1 c1)∧w'.cell? ⟨w.heap.size,1,none⟩=some (.slice (some ⟨ba,oa,none⟩) n2 c2)∧w'.cell? ⟨w.heap.size,2,none⟩=some (.slice a3 n3 c3))∧w'.cell? ⟨ba,oa+m*4,none⟩=some (.int .i64 kd)∧w'.cell? ⟨ba,oa+m*4+1,none⟩=some (.int .i64 sr)∧w'.cell? ⟨ba,oa+m*4+2,none⟩=some (.int .i64 ds)∧w'.cell? ⟨ba,oa+m*4+3,none⟩=some (.int .i64 am))
       (first | (with_reducible exact hkp) | ((with_reducible refine HKP.out _ ?_);(repeat' (with_reducible (first | exact hb7 | exact Below.refl _ _ | refine Below.drew ?_ | refine Below.alloc ?_ hb7.size _ | refine Below.alloc ?_ (Nat.le_refl _) _ | refine below_stored ?_ hb7.size _ _ | refine below_stored ?_ (Nat.le_refl _) _ _)));done))
       (first
        | (go_at_call 167;(with_reducible refine (HTY.out w4.drew (Below.refl _ _).drew).mono ?_);rintro e1 w7 ⟨vr,vw,vf,rfl,ho7,hx7,hy7,hz7,hb7'⟩;obtain ⟨pr,qr,kr,er⟩:=slice_form ho7.head;obtain ⟨pw,qw,kw,ew'⟩:=slice_form ho7.tail.head;obtain ⟨pf,qf,kf,ef⟩:=slice_form ho7.tail.tail.head;simp only at er ew' ef;subst er ew' ef;have hb7:Below w4.heap.size w4 w7:=(Below.refl _ _).drew.trans hb7';have hkp:=HKP.out _ hb7)
        | (go_at_call 167;(with_reducible refine (HTY.out (w4.alloc (.cells #[.bool false,.slice none 0 0,.slice none 0 0] 39)).drew (((Below.refl _ _).alloc (Nat.le_refl _) _).drew)).mono ?_);rintro e1 w7 ⟨vr,vw,vf,rfl,ho7,hx7,hy7,hz7,hb7'⟩;obtain ⟨pr,qr,kr,er⟩:=slice_form ho7.head;obtain ⟨pw,qw,kw,ew'⟩:=slice_form ho7.tail.head;obtain ⟨pf,qf,kf,ef⟩:=slice_form ho7.tail.tail.head;simp only at er ew' ef;subst er ew' ef;have hb7:Below w4.heap.size w4 w7:=(((Below.refl _ _).alloc (Nat.le_refl _) _).drew).trans (hb7'.mono (by simp));have hkp:=HKP.out _ hb7;have hea:=(eAt_newS w4 39).below ((Below.refl _ _).drew.trans hb7');obtain ⟨⟨z0,z1,z2⟩,⟨zf0,zf1,zf2⟩,-⟩:=id hea))
      all_goals first
       | (have hEF:=effF_set (b:=YE.done) (v:=.slice pr qr kr) (u:=.slice pw qw kw) hb7 hea ho7;generalize hFw:World.setCell _ _ _=F at hEF ⊢;generalize hEe:w4.heap.size=E at hEF ⊢)
       | (have hEF:=effF_alloc (T:=39) (b:=YE.done) (v:=.slice pr qr kr) (u:=.slice pw qw kw) hb7 ho7;generalize hFw:World.alloc w7 _=F at hEF ⊢;generalize hEe:w7.heap.size=E at hEF ⊢)
      all_goals
       (rename_i hHeld;clear hHeld hkp hb7 hb7' ho7 HTY HKP)
      all_goals
       obtain ⟨hbF,hea,hoF,hEr⟩:=hEF
       clear hFw hEe q0 q1 q2 q3 k0 k1 k2 k3 x0 x1 x2 x3 f0 f1 f2 f3 y0 y1 y2 y3 g0 g1 g2 g3
       have hs:=HS3.out;have hs4:=HZ4.out
       have hzE:Z2 < w4.heap.size:=by omega
       have hZ3l:Z3 < w4.heap.size:=by omega
       -- what the step makes of the engine
       have hm':m < e.slots.length:=by rw [HL4.out];exact hm
       have hOK':EngOk (e.put m ⟨1,tr+1,YF,YE⟩ (putL e.vers m YE.wrs)):=by
        have:=step_ok HOK.out hm';rw [HSN2.out] at this;exact this
       have hwf':=engWf_ok hOK'
       have hsl':=hOK'.slot m (by rw [len_put];exact hm')
       rw [slot_put _ _ _ _ hm',if_pos rfl] at hsl'
       have hact:=HACT.out
       rw [HXE.out] at hact
       have HWR:Hid (YE.wrs.length≤32):=Lib.hid (wr_len (slot_wr hact hsl'))
       have HSW:=Lib.hid (hwf'.slots ⟨1,tr+1,YF,YE⟩ (List.mem_set hm' _))
       have HVL:Hid ((putL e.vers m YE.wrs).length≤4000000):=Lib.hid hwf'.vlen
       have htr:0≤tr∧tr≤1000:=by
        have:=slot_new HSL.out HST.out.symm;rw [HTR.out];exact this.2
       have HF2:=Lib.hid (HF.out.trans HSN2.out)
       clear hOK' hwf' hsl' hact
       have HO:=Lib.hid (HO4.out.below hbF)
       obtain ⟨g,hg1,hg2,hgr,hgf,hgc⟩:=slot_cells HO.out hm'
       subst hg1 hg2
       obtain ⟨u0,sc0⟩:=hgc 0 (by omega);obtain ⟨u1,sc1⟩:=hgc 1 (by omega);obtain ⟨u2,sc2⟩:=hgc 2 (by omega)
       obtain ⟨u3,sc3⟩:=hgc 3 (by omega);obtain ⟨u4,sc4⟩:=hgc 4 (by omega);obtain ⟨u5,sc5⟩:=hgc 5 (by omega)
       rw [Nat.add_zero] at sc0
       have r0:=hgf (m*6);have r1:=hgf (m*6+1);have r2:=hgf (m*6+2);have r3:=hgf (m*6+3);have r4:=hgf (m*6+4);have r5:=hgf (m*6+5)
       obtain ⟨⟨z0,z1,z2⟩,-,-⟩:=id hea
       have pF1:=below_cs hbF hZ3l pc1
       have HZF:=Lib.hid (HZ24.out.below hbF)
       obtain ⟨y0,y1,y2,y3,-,-,-,-⟩:=HZF.out
       have ew2:IntKind.i64.wrap (tr+1)=tr+1:=IntWalk.i64_in _ (by omega)
       have i4:(m:Int) < (e.slots.length:Int):=by omega
       have HGR:=Lib.hid hgr
       have HBF:=Lib.hid hbF
       have HEA:=Lib.hid hea
       have HOF:=Lib.hid hoF
       have HEr:=Lib.hid hEr
       clear hgf hgc hgr hbF hea hoF hEr pc0 pc1 hs hs4 htr
       go_upto_region 11 with (fail)
       generalize hFw:World.setCell _ _ _=F1
       have hF1:F1=st6 F g m ⟨1,tr+1,YF,YE⟩ (.slice pf qf kf,.slice pr qr kr,.slice pw qw kw):=hFw.symm
       clear hFw
       have hs:=HS3.out;have hs4:=HZ4.out;have hgr:=HGR.out
       have hfs:=HBF.out.size
       have hne1:E≠g:=by have:=HEr.out;omega
       have hne2:Z2≠g:=by omega
       have HOFR:Hid (OwnR F w4.heap.size F.heap.size (slRs tEng.tI tEng.tE ⟨1,tr+1,YF,YE⟩ (.slice pf qf kf,.slice pr qr kr,.slice pw qw kw))):=Lib.hid (HOF.out.perm (by
        unfold slRs
        exact (List.perm_append_comm (l₁:=[_,_]) (l₂:=[_]))))
       have HO1:Hid (EngOwn F1 W1.heap.size F.heap.size tEng (.slice b1 m1 d1) (.slice b2 m2 d2) (.slice b3 m3 d3) (.slice (some ⟨g,0,none⟩) e.slots.length d4) ⟨e.base,e.list,e.vers,e.slots.set m ⟨1,tr+1,YF,YE⟩⟩ (ts.set m (.slice pf qf kf,.slice pr qr kr,.slice pw qw kw))) :=
        Lib.hid (by rw [hF1];exact eng_slot HO.out (by rw [HL4.out];exact hm) (HOFR.out.mono (by omega) (Nat.le_refl _)) (by omega) (by omega) HSW.out)
       have HOFF:Hid (∀ r∈engRs tEng (.slice b1 m1 d1) (.slice b2 m2 d2) (.slice b3 m3 d3) (.slice (some ⟨g,0,none⟩) e.slots.length d4) ⟨e.base,e.list,e.vers,e.slots.set m ⟨1,tr+1,YF,YE⟩⟩ (ts.set m (.slice pf qf kf,.slice pr qr kr,.slice pw qw kw)),blk r.v≠some Z2) :=
        Lib.hid (eng_slot_off HO.out (by rw [HL4.out];exact hm) HOFR.out (Nat.le_refl _) (by omega))
       have HZ1:Hid (EgAt F1 Z2 (.slice b1 m1 d1) (.slice b2 m2 d2) (.slice b3 m3 d3) (.slice (some ⟨g,0,none⟩) e.slots.length d4)):=Lib.hid (HZF.out.keep (by rw [hF1];exact st6_heap _ _ _ _ _ hne2))
       have HE1:Hid (F1.cell? ⟨E,2,none⟩=some (.slice pw qw kw)):=Lib.hid (by rw [hF1];exact st6_cell hne1 z2)
       have HB1:Hid (Below W1.heap.size W1 F1):=Lib.hid (by rw [hF1];exact st6_below (HB4.out.trans (HBF.out.mono HB4.out.size)) (by omega) _ _ _)
       have HSZ:Hid (F1.heap.size=F.heap.size):=Lib.hid (by rw [hF1];exact st6_size _ _ _ _ _)
       have HW1:Hid (∃ a cap,Value.slice pw qw kw = .slice a YE.wrs.length cap∧RowE F1 a YE.wrs.length YE.wrs):=Lib.hid (by
        have hk:=HOF.out.keep (w':=F1) (fun r hr q hq=>by rw [hF1];exact st6_heap _ _ _ _ _ (by have:=(HOF.out.ge hr hq).1;omega))
        obtain ⟨a,cap,h1,h2,-⟩:=rowE_of_owns hk.tail.head (by have:=HWR.out;show YE.wrs.length≤4000000;omega) HSW.out.wrs
        exact ⟨a,cap,h1,h2⟩)
       clear hF1
       obtain ⟨pa,pcap,hpe,hrw⟩:=HW1.out
       simp only [Value.slice.injEq] at hpe
       obtain ⟨rfl,rfl,rfl⟩:=hpe
       obtain ⟨⟨-,-,k2,-,-,-,-,-⟩,-,-,-,-,-,hrv,-⟩:=HKK.out F1 HB1.out
       have e2:=HE1.out
       have hvl:=hrv.1
       have hv320:=vers_len HOK.out.vok
       have hmw:(Lit.int .i64 (m:Int)).wf=true:=WalkArith.wf_i64 (by omega)
       have hwl:=HWR.out
       have hpl:YE.wrs.length≤100000:=by omega
       have hvl2:n3≤100000:=by omega
       clear hs hs4 hgr hfs hne1 hne2 hvl hv320 hwl z0 z1 z2 sc0 sc1 sc2 sc3 sc4 sc5 r0 r1 r2 r3 r4 r5 pF1 y0 y1 y2 y3
       go_wp2_with fail
       refine (l9Put_spec _ _ c3 e.vers (m:Int) _ _ kw YE.wrs _ hrv hvl2 hrw hpl hmw).mono ?_;rintro e9 w9 ⟨v9,rfl,ho9,hw9,hb9⟩
       obtain ⟨g9,c9,hv9,-,-,-,-⟩:=rowV_of_own ho9 HVL.out hw9
       subst hv9
       have HZ9:=Lib.hid (HZ1.out.below hb9)
       obtain ⟨y0,y1,y2,y3,g0,g1,g2,g3⟩:=HZ9.out
       have HO9:=Lib.hid (HO1.out.below hb9)
       have HN9:=Lib.hid ho9
       have HW9:=Lib.hid hw9
       have HB9:=Lib.hid hb9
       clear ho9 hw9 hb9 k2 e2 hrv hrw hmw hpl hvl2
       go_upto_region 12 with (fail)
       have HS9:Hid (EgAt (w9.setCell ⟨Z2,2,none⟩ (.slice (some ⟨g9,0,none⟩) (putL e.vers m YE.wrs).length c9)) Z2 (.slice b1 m1 d1) (.slice b2 m2 d2) (.slice (some ⟨g9,0,none⟩) (putL e.vers m YE.wrs).length c9) (.slice (some ⟨g,0,none⟩) e.slots.length d4)):=Lib.hid (HZ9.out.set2 _)
       have hs:=HS3.out;have hs4:=HZ4.out
       have hfs:=HBF.out.size;have h9:=HB9.out.size;have hsz:=HSZ.out
       have HE9:Hid (EngOwn (w9.setCell ⟨Z2,2,none⟩ (.slice (some ⟨g9,0,none⟩) (putL e.vers m YE.wrs).length c9)) W1.heap.size (w9.setCell ⟨Z2,2,none⟩ (.slice (some ⟨g9,0,none⟩) (putL e.vers m YE.wrs).length c9)).heap.size tEng (.slice b1 m1 d1) (.slice b2 m2 d2) (.slice (some ⟨g9,0,none⟩) (putL e.vers m YE.wrs).length c9) (.slice (some ⟨g,0,none⟩) e.slots.length d4) (e.put m ⟨1,tr+1,YF,YE⟩ (putL e.vers m YE.wrs)) (ts.set m (.slice pf qf kf,.slice pr qr kr,.slice pw YE.wrs.length kw))) :=
        Lib.hid (eng_vers ((HO9.out.storeZ HOFF.out 2 _).mono (Nat.le_refl _) (by omega)) (own_storeZ HN9.out (by omega) 2 _).1 (by omega) (by simpa [World.setCell] using h9) (Nat.le_refl _) HW9.out HVL.out)
       have HBG:Hid (Below W1.heap.size W1 (w9.setCell ⟨Z2,2,none⟩ (.slice (some ⟨g9,0,none⟩) (putL e.vers m YE.wrs).length c9))) :=
        Lib.hid (below_stored (HB1.out.trans (HB9.out.mono HB1.out.size)) (by omega) _ _)
       clear hs hs4 hfs h9 hsz y0 y1 y2 y3 g0 g1 g2 g3
       generalize hG:World.setCell _ _ _=G at HS9 HE9 HBG ⊢
       clear hG
       have hk:=HKK.out G HBG.out
       obtain ⟨x0,x1,x2,x3,f0,f1,f2,f3⟩:=hk.2.1
       obtain ⟨y0,y1,y2,y3,-,-,-,-⟩:=HS9.out
       have hlt:=HS3.out
       have HFE:=Lib.hid (fin_eng hk.2.1 HE9.out (by omega) hk.2.2.2.1 (by omega) (Nat.le_refl _))
       have HEE:=Lib.hid HFE.out.1
       unfold set4 at HFE HEE
       clear hk hlt
       go_wp2_with fail
       refine bodyPost_ret (results_engB Tryz.results120 _ (by rfl) HEE.out _ (by rfl)) rfl ⟨_,_,_,_,_,by rw [HF2.out];rfl,by rw [HF2.out];exact HFE.out.2.1,HFE.out.2.2⟩
  · have t0:(st == 0)=false:=by simpa using e0
    by_cases e1:st=1
    · subst e1
      have HSN2:=Lib.hid (HSN.out.trans ((if_neg e0).trans (if_pos rfl)))
      by_cases hp:m≠0∧stg e (m - 1)≠2
      · obtain ⟨hE,hO,hB,hF⟩:=HSTAY.out (HSN2.out.trans (if_pos hp))
        have HE:=Lib.hid hE
        have HO:=Lib.hid hO
        have HB:=Lib.hid hB
        have HFF:=Lib.hid hF
        unfold set4 at HE HO HB
        obtain ⟨hm0,hst2⟩:=hp
        obtain ⟨p,hpm⟩:∃ p,p=m - 1:=⟨_,rfl⟩
        have hpn:p < n4:=by omega
        obtain ⟨bp,op,hpe,hps⟩:=(HKK.out _ HB4.out).2.2.2.2.2.2.2.at p hpn
        simp only [Option.some.injEq,Addr.mk.injEq,and_true] at hpe
        obtain ⟨rfl,rfl⟩:=hpe
        have qs:=hps.1
        obtain ⟨sp,hsp⟩:∃ x,x=(e.slots.getD p noSlt).stage:=⟨_,rfl⟩
        rw [← hsp] at qs
        have t2:(sp == 2)=false:=by
         simp only [beq_eq_false_iff_ne];rw [hsp,hpm];exact hst2
        have t2n:(sp != 2)=true:=by simp [bne,t2]
        have tm:decide ((0:Int) < (m:Int))=true:=by simp;omega
        have tm2:decide (0 < m)=true:=by simp;omega
        have ewp:IntKind.i64.wrap ((m:Int) - 1)=(p:Int):=by rw [IntWalk.i64_in _ (by omega)];omega
        have i5:(0:Int)≤(p:Int):=by omega
        have i6:(p:Int) < (n4:Int):=by omega
        clear hE hO hB hF HSTAY HSN HSN2 e0 hm0 hst2 hsp hpm hps hpn
        go_wp2_with fail
        refine bodyPost_ret (results_engB Tryz.results120 _ (by rfl) HE.out _ (by rfl)) rfl ⟨_,_,_,_,_,by rw [HFF.out];rfl,HO.out,HB.out⟩
      · have HSN3:=Lib.hid (HSN2.out.trans (if_neg hp))
        clear HSTAY HSN HSN2 e0
        have hso:=slot_old HACT.out HSL.out (by rw [← HST.out];decide)
        have hfl:(e.slots.getD m noSlt).res.rds.length≤(e.slots.getD m noSlt).from_.length:=by
         rw [← HSE.out,hso.flen,hso.rds];simp
        have HTB:Hid (0≤tr∧tr≤1000):=Lib.hid (by rw [HTR.out];have:=hso.tries;omega)
        have HL10:=Lib.hid (fun W (hb:Below W1.heap.size W1 W)=>l10Same_spec _ _ _ _ e m W (HKK.out W hb).2.2.1 (by rw [HL4.out];exact hm) hfl)
        have HTS:Hid ((e.slots.getD m noSlt).tries=tr):=Lib.hid (by rw [← HSE.out,HTR.out])
        clear hfl hso
        rcases Nat.eq_zero_or_pos m with m0 | m0
        all_goals first
         | (obtain ⟨tm, tm2⟩ := gt_no m0
            clear hp m0
            go_upto_region 16 with (fail))
         | (obtain ⟨tm, tm2⟩ := gt_yes m0
            have hst2:stg e (m - 1)=2:=Classical.byContradiction fun hh=>hp ⟨Nat.pos_iff_ne_zero.1 m0,hh⟩
            obtain ⟨p,hpm⟩:∃ p,p=m - 1:=⟨_,rfl⟩
            have hpn:p < n4:=by omega
            obtain ⟨bp,op,hpe,hps⟩:=(HKK.out _ HB4.out).2.2.2.2.2.2.2.at p hpn
            simp only [Option.some.injEq,Addr.mk.injEq,and_true] at hpe
            obtain ⟨rfl,rfl⟩:=hpe
            have qs:=hps.1
            obtain ⟨sp,hsp⟩:∃ x,x=(e.slots.getD p noSlt).stage:=⟨_,rfl⟩
            rw [← hsp] at qs
            have t2:(sp == 2)=true:=by
             simp only [beq_iff_eq];rw [hsp,hpm];exact hst2
            have t2n:(sp != 2)=false:=by simp [bne,t2]
            have ewp:IntKind.i64.wrap ((m:Int) - 1)=(p:Int):=by rw [IntWalk.i64_in _ (by omega)];omega
            have i5:(0:Int)≤(p:Int):=by omega
            have i6:(p:Int) < (n4:Int):=by omega
            clear hp m0 hst2 hsp hpm hps hpn
            go_upto_region 16 with (fail))
        all_goals
         go_wp2_with fail
         refine (HL10.out _ HB4.out).mono ?_;rintro e9 w9 ⟨rfl,hb9⟩
         have HB9:=Lib.hid hb9
         have HZ9:=Lib.hid (HZ24.out.below hb9)
         have HO9:=Lib.hid (HO4.out.below hb9)
         have p91:=below_cs hb9 (World.block_lt_of_cell? w4 ⟨Z3,1,none⟩ pc1) pc1
         obtain ⟨g,hg1,hg2,hgr,hgf,hgc⟩:=slot_cells HO9.out (n:=m) (by rw [HL4.out];exact hm)
         subst hg1 hg2
         obtain ⟨u0,sc0⟩:=hgc 0 (by omega);obtain ⟨u1,sc1⟩:=hgc 1 (by omega);obtain ⟨u2,sc2⟩:=hgc 2 (by omega)
         obtain ⟨u3,sc3⟩:=hgc 3 (by omega);obtain ⟨u4,sc4⟩:=hgc 4 (by omega);obtain ⟨u5,sc5⟩:=hgc 5 (by omega)
         rw [Nat.add_zero] at sc0
         have r0:=hgf (m*6);have r1:=hgf (m*6+1);have r2:=hgf (m*6+2);have r3:=hgf (m*6+3);have r4:=hgf (m*6+4);have r5:=hgf (m*6+5)
         have i4:(m:Int) < (e.slots.length:Int):=by rw [HL4.out];exact i2
         have HGR:=Lib.hid hgr
         have HBW:Hid (Below W1.heap.size W1 w9):=Lib.hid (HB4.out.trans (hb9.mono HB4.out.size))
         clear hb9 hgf hgc hgr k0 k1 k2 k3 x0 x1 x2 x3 f0 f1 f2 f3 y0 y1 y2 y3 g0 g1 g2 g3 pc0 pc1
         obtain ⟨y0,y1,y2,y3,g0,g1,g2,g3⟩:=HZ9.out
         cases hsm:sameB e m with
         | true =>
          have HF2:=Lib.hid (HF.out.trans (HSN3.out.trans (if_pos hsm)))
          clear hsm
          go_upto_region 18 with (fail)
          have hs:=HS3.out;have hgr:=HGR.out
          have HE9:Hid (EngOwn (w9.setCell ⟨g,m*6,none⟩ (.int .i64 2)) W1.heap.size Z2 tEng (.slice b1 m1 d1) (.slice b2 m2 d2) (.slice b3 m3 d3) (.slice (some ⟨g,0,none⟩) e.slots.length d4) (e.put m ⟨2,tr,s.from_,s.res⟩ e.vers) ts):=Lib.hid (by
           have h1:=eng_stage HO9.out (n:=m) (by rw [HL4.out];exact hm) 2 (by rfl)
           rw [← HSE.out,← HTR.out] at h1
           exact h1)
          have HZG:Hid (EgAt (w9.setCell ⟨g,m*6,none⟩ (.int .i64 2)) Z2 (.slice b1 m1 d1) (.slice b2 m2 d2) (.slice b3 m3 d3) (.slice (some ⟨g,0,none⟩) e.slots.length d4)) :=
           Lib.hid (HZ9.out.keep (Below.heap_setCell _ _ _ _ (by simp only;omega)))
          have HBG:Hid (Below W1.heap.size W1 (w9.setCell ⟨g,m*6,none⟩ (.int .i64 2))):=Lib.hid (below_stored HBW.out (by omega) _ _)
          have HZG2:Hid (Z2≤(w9.setCell ⟨g,m*6,none⟩ (.int .i64 2)).heap.size):=Lib.hid (Nat.le_of_lt HZG.out.lt)
          clear hs hgr y0 y1 y2 y3 g0 g1 g2 g3 sc0 sc1 sc2 sc3 sc4 sc5 r0 r1 r2 r3 r4 r5
          generalize hG:World.setCell _ _ _=G at HE9 HZG HBG HZG2 ⊢
          clear hG
          have hk:=HKK.out G HBG.out
          obtain ⟨x0,x1,x2,x3,f0,f1,f2,f3⟩:=hk.2.1
          obtain ⟨y0,y1,y2,y3,-,-,-,-⟩:=HZG.out
          have hlt:=HS3.out
          have HFE:=Lib.hid (fin_eng hk.2.1 HE9.out (by omega) hk.2.2.2.1 (by omega) HZG2.out)
          have HEE:=Lib.hid HFE.out.1
          unfold set4 at HFE HEE
          clear hk hlt
          go_wp2_with fail
          refine bodyPost_ret (results_engB Tryz.results120 _ (by rfl) HEE.out _ (by rfl)) rfl ⟨_,_,_,_,_,by rw [HF2.out];rfl,by rw [HF2.out];exact HFE.out.2.1,HFE.out.2.2⟩
         | false =>
          have HF2:=Lib.hid (HF.out.trans (HSN3.out.trans (if_neg (by rw [hsm];decide))))
          clear hsm
          go_upto_region 20 with (fail)
          generalize hFw:World.setCell _ _ _=F1
          have hF1:F1=st6 w9 g m ⟨0,tr,[],noEff⟩ (.slice none 0 0,.slice none 0 0,.slice none 0 0):=hFw.symm
          clear hFw
          have hs:=HS3.out;have hgr:=HGR.out
          have hne2:Z2≠g:=by omega
          have HO1:Hid (EngOwn F1 W1.heap.size Z2 tEng (.slice b1 m1 d1) (.slice b2 m2 d2) (.slice b3 m3 d3) (.slice (some ⟨g,0,none⟩) e.slots.length d4) ⟨e.base,e.list,e.vers,e.slots.set m ⟨0,tr,[],noEff⟩⟩ (ts.set m (.slice none 0 0,.slice none 0 0,.slice none 0 0))) :=
           Lib.hid (by rw [hF1];exact eng_slot HO9.out (by rw [HL4.out];exact hm) (ownR_nil3 _ _ _ _ _ _) (by omega) (Nat.le_refl _) (slWf_zero (WalkArith.wf_i64 (by have:=HTB.out;omega))))
          have HZ1:Hid (EgAt F1 Z2 (.slice b1 m1 d1) (.slice b2 m2 d2) (.slice b3 m3 d3) (.slice (some ⟨g,0,none⟩) e.slots.length d4)):=Lib.hid (HZ9.out.keep (by rw [hF1];exact st6_heap _ _ _ _ _ hne2))
          have HB1:Hid (Below W1.heap.size W1 F1):=Lib.hid (by rw [hF1];exact st6_below HBW.out (by omega) _ _ _)
          have HSZ:Hid (Z2 < F1.heap.size):=Lib.hid HZ1.out.lt
          clear hF1
          obtain ⟨⟨-,-,k2,-,-,-,-,-⟩,-,-,-,-,-,hrv,-⟩:=HKK.out F1 HB1.out
          have hvl:=hrv.1
          have hv320:=vers_len HOK.out.vok
          have hmw:(Lit.int .i64 (m:Int)).wf=true:=WalkArith.wf_i64 (by omega)
          have hvl2:n3≤2000000:=by omega
          have HVD:Hid ((dropL e.vers m).length≤4000000):=Lib.hid (by unfold dropL;have:=List.length_filter_le (fun x:Ver=>!decide (x.by_=(m:Int))) e.vers;first | omega | (refine Nat.le_trans (List.length_filter_le _ _) ?_;omega))
          clear hs hgr hne2 hvl hv320 sc0 sc1 sc2 sc3 sc4 sc5 r0 r1 r2 r3 r4 r5 y0 y1 y2 y3 g0 g1 g2 g3 p91
          go_wp2_with fail
          refine (l9Drop_spec _ _ c3 e.vers (m:Int) _ hrv hvl2).mono ?_;rintro e9 w19 ⟨v9,rfl,ho9,hw9,hb9⟩
          obtain ⟨g9,c9,hv9,-,-,-,-⟩:=rowV_of_own ho9 HVD.out hw9
          subst hv9
          have HZ19:=Lib.hid (HZ1.out.below hb9)
          obtain ⟨y0,y1,y2,y3,g0,g1,g2,g3⟩:=HZ19.out
          have HO19:=Lib.hid (HO1.out.below hb9)
          have HN9:=Lib.hid ho9
          have HW9:=Lib.hid hw9
          have HB19:=Lib.hid hb9
          clear ho9 hw9 hb9 k2 hrv hmw hvl2
          go_upto_region 21 with (fail)
          have HS9:Hid (EgAt (w19.setCell ⟨Z2,2,none⟩ (.slice (some ⟨g9,0,none⟩) (dropL e.vers m).length c9)) Z2 (.slice b1 m1 d1) (.slice b2 m2 d2) (.slice (some ⟨g9,0,none⟩) (dropL e.vers m).length c9) (.slice (some ⟨g,0,none⟩) e.slots.length d4)):=Lib.hid (HZ19.out.set2 _)
          have hs:=HS3.out
          have h9:=HB19.out.size;have hsz:=HSZ.out
          have HE9:Hid (EngOwn (w19.setCell ⟨Z2,2,none⟩ (.slice (some ⟨g9,0,none⟩) (dropL e.vers m).length c9)) W1.heap.size (w19.setCell ⟨Z2,2,none⟩ (.slice (some ⟨g9,0,none⟩) (dropL e.vers m).length c9)).heap.size tEng (.slice b1 m1 d1) (.slice b2 m2 d2) (.slice (some ⟨g9,0,none⟩) (dropL e.vers m).length c9) (.slice (some ⟨g,0,none⟩) e.slots.length d4) (e.put m ⟨0,tr,[],noEff⟩ (dropL e.vers m)) (ts.set m (.slice none 0 0,.slice none 0 0,.slice none 0 0))) :=
           Lib.hid (eng_vers ((HO19.out.storeZ (fun r hr hb=>by have:=(HO19.out.own.ge hr hb).2.1;omega) 2 _).mono (Nat.le_refl _) (Nat.le_of_lt hsz)) (own_storeZ HN9.out hsz 2 _).1 (by omega) (by simpa [World.setCell] using h9) (Nat.le_refl _) HW9.out HVD.out)
          have HBG:Hid (Below W1.heap.size W1 (w19.setCell ⟨Z2,2,none⟩ (.slice (some ⟨g9,0,none⟩) (dropL e.vers m).length c9))) :=
           Lib.hid (below_stored (HB1.out.trans (HB19.out.mono HB1.out.size)) (by omega) _ _)
          clear hs h9 hsz y0 y1 y2 y3 g0 g1 g2 g3
          generalize hG:World.setCell _ _ _=G at HS9 HE9 HBG ⊢
          clear hG
          have hk:=HKK.out G HBG.out
          obtain ⟨x0,x1,x2,x3,f0,f1,f2,f3⟩:=hk.2.1
          obtain ⟨y0,y1,y2,y3,-,-,-,-⟩:=HS9.out
          have hlt:=HS3.out
          have HFE:=Lib.hid (fin_eng hk.2.1 HE9.out (by omega) hk.2.2.2.1 (by omega) (Nat.le_refl _))
          have HEE:=Lib.hid HFE.out.1
          unfold set4 at HFE HEE
          clear hk hlt
          go_wp2_with fail
          refine bodyPost_ret (results_engB Tryz.results120 _ (by rfl) HEE.out _ (by rfl)) rfl ⟨_,_,_,_,_,by rw [HF2.out];rfl,by rw [HF2.out];exact HFE.out.2.1,HFE.out.2.2⟩
    · have t1:(st == 1)=false:=by simpa using e1
      obtain ⟨hE,hO,hB,hF⟩:=HSTAY.out (by rw [HSN.out,if_neg e0,if_neg e1])
      have HE:=Lib.hid hE
      have HO:=Lib.hid hO
      have HB:=Lib.hid hB
      have HFF:=Lib.hid hF
      unfold set4 at HE HO HB
      clear hE hO hB hF HSTAY HSN e1 e0
      go_wp2_with fail
      refine bodyPost_ret (results_engB Tryz.results120 _ (by rfl) HE.out _ (by rfl)) rfl ⟨_,_,_,_,_,by rw [HFF.out];rfl,HO.out,HB.out⟩
end Go.Proofs.YtaaffpolmecicabGreat
/- The contract of the model's EngineRun. -/
namespace Go.Proofs.YtaaffpolmecicabGreat
open Go.RowKit
set_option linter.unusedVariables false
set_option linter.unusedSimpArgs false
def eStep (p:Eng × Int) (n:Int):Eng × Int:=((stepL p.1 n).1,if (stepL p.1 n).2=true then p.2+1 else p.2)
def eRunTo (e:Eng) (L:List Int) (k:Nat):Eng × Int:=(L.take k).foldl eStep (e,0)
def eRunM (e:Eng) (L:List Int):Eng × Int:=if engB e=true∧L.length≤200 then eRunTo e L L.length else (noEng,-1)
theorem eRunTo_next {e:Eng} {L:List Int} {k:Nat} (h:k < L.length):eRunTo e L (k+1)=eStep (eRunTo e L k) (L.getD k 0):=by
 unfold eRunTo
 rw [List.take_succ_eq_append_getElem h,List.foldl_append,List.getD_eq_getElem?_getD,List.getElem?_eq_getElem h];rfl
theorem stepL_ok {e:Eng} (h:EngOk e) (n:Int):EngOk (stepL e n).1:=by
 unfold stepL
 split
 · rename_i hin
   have hb:=inB_true hin
   exact step_ok h (by omega)
 · exact h
theorem eRunTo_ok {e:Eng} (h:EngOk e) (L:List Int):∀ k,k≤L.length→EngOk (eRunTo e L k).1∧0≤(eRunTo e L k).2∧(eRunTo e L k).2≤k
 | 0,_=>⟨h,by simp [eRunTo],by simp [eRunTo]⟩
 | k+1,hk=>by
  obtain ⟨h1,h2,h3⟩:=eRunTo_ok h L k (by omega)
  rw [eRunTo_next (by omega)]
  refine ⟨stepL_ok h1 _,?_,?_⟩ <;> unfold eStep <;> simp only <;> split <;> omega
def NewEngI (w:World) (t:EngT) (p:Eng × Int) (en:Ending) (w':World):Prop :=
 ∃ v1 v2 v3 v4 ts,en = .returned (.tuple #[.agg #[v1,v2,v3,v4],.int .i64 p.2])∧EngOwn w' w.heap.size w'.heap.size t v1 v2 v3 v4 p.1 ts∧Below w.heap.size w w'
theorem results_engI {fn:Func} {p q:Tmp} (h:fn.results=#[.cell p 57,.tmp q]) (tmps:Array Value) {F:World} {Z:Nat} (hp:tmps.getD p undef = .pointer (some ⟨Z,0,none⟩)) {v1 v2 v3 v4:Value} (hc:EgAt F Z v1 v2 v3 v4) (x:Value) (hq:tmps.getD q undef=x):(results fn tmps).run Tryz.prog F = .ok (.tuple #[.agg #[v1,v2,v3,v4],x]) F:=results_engB h tmps hp hc x hq
def OutAt (wr:World) (B0 Z:Nat) (e:Eng):Prop:=∃ b1 m1 d1 b2 m2 d2 b3 m3 d3 b4 m4 d4 ts B T,EgAt wr Z (.slice b1 m1 d1) (.slice b2 m2 d2) (.slice b3 m3 d3) (.slice b4 m4 d4)∧EngOwn wr B T tEng (.slice b1 m1 d1) (.slice b2 m2 d2) (.slice b3 m3 d3) (.slice b4 m4 d4) e ts∧B0≤B∧(T≤Z∨Z < B)∧T≤wr.heap.size
def EngF (w4 F:World) (E:Nat) (x1 x2 x3 x4:Value) (e:Eng) (ts:List (Value × Value × Value)):Prop :=
 Below w4.heap.size w4 F∧EgAt F E x1 x2 x3 x4∧EngOwn F w4.heap.size F.heap.size tEng x1 x2 x3 x4 e ts∧w4.heap.size≤E
theorem engF_alloc {w4 w7:World} {T:TypeId} {x1 x2 x3 x4:Value} {e:Eng} {ts:List (Value × Value × Value)} (h:Below w4.heap.size w4 w7) (ho:EngOwn w7 w4.drew.heap.size w7.heap.size tEng x1 x2 x3 x4 e ts) :
  EngF w4 (w7.alloc (.cells #[x1,x2,x3,x4] T)) w7.heap.size x1 x2 x3 x4 e ts :=
 ⟨h.alloc h.size _,egAt_new _ _ _ _ _ _,(EngOwn.below (show EngOwn w7 w4.heap.size w7.heap.size tEng x1 x2 x3 x4 e ts from ho) ((Below.refl _ _).alloc (Nat.le_refl _) _)).mono (Nat.le_refl _) (by simp),h.size⟩
theorem engF_set {w4 w7:World} {o:Obj} {x1 x2 x3 x4 y1 y2 y3 y4:Value} {e:Eng} {ts:List (Value × Value × Value)} (h:Below w4.heap.size w4 w7) (he:EgAt w7 w4.heap.size y1 y2 y3 y4) (ho:EngOwn w7 (w4.alloc o).drew.heap.size w7.heap.size tEng x1 x2 x3 x4 e ts) :
  EngF w4 ((((w7.setCell ⟨w4.heap.size,0,none⟩ x1).setCell ⟨w4.heap.size,1,none⟩ x2).setCell ⟨w4.heap.size,2,none⟩ x3).setCell ⟨w4.heap.size,3,none⟩ x4) w4.heap.size x1 x2 x3 x4 e ts:=by
 have ho':EngOwn w7 (w4.heap.size+1) w7.heap.size tEng x1 x2 x3 x4 e ts:=by
  have:=ho
  rwa [show (w4.alloc o).drew.heap.size=w4.heap.size+1 from World.size_alloc _ _] at this
 refine ⟨below_stored (below_stored (below_stored (below_stored h (Nat.le_refl _) _ _) (Nat.le_refl _) _ _) (Nat.le_refl _) _ _) (Nat.le_refl _) _ _,he.set4 _ _ _ _,?_,Nat.le_refl _⟩
 have:=(ho'.turn (set4_turn w7 w4.heap.size x1 x2 x3 x4) (.inr (.inl (by omega)))).mono (B':=w4.heap.size) (T':=(set4 w7 w4.heap.size x1 x2 x3 x4).heap.size) (by omega) (by rw [set4_size];exact Nat.le_refl _)
 exact this
theorem outAt_set {w4 F:World} {E Z B0:Nat} {b1 b2 b3 b4:Option Addr} {m1 d1 m2 d2 m3 d3 m4 d4:Nat} {y1 y2 y3 y4:Value} {e:Eng} {ts:List (Value × Value × Value)} (h:EngF w4 F E (.slice b1 m1 d1) (.slice b2 m2 d2) (.slice b3 m3 d3) (.slice b4 m4 d4) e ts) (hZ:EgAt w4 Z y1 y2 y3 y4) (hB:B0≤w4.heap.size) :
  OutAt (set4 F Z (.slice b1 m1 d1) (.slice b2 m2 d2) (.slice b3 m3 d3) (.slice b4 m4 d4)) B0 Z e:=by
 obtain ⟨h1,h2,h3,h4⟩:=h
 have hlt:=hZ.lt
 exact ⟨b1,m1,d1,b2,m2,d2,b3,m3,d3,b4,m4,d4,ts,w4.heap.size,F.heap.size,(hZ.below h1).set4 _ _ _ _,h3.turn (set4_turn F Z _ _ _ _) (.inr (.inl (by omega))),hB,.inr hlt,by rw [set4_size];exact Nat.le_refl _⟩
set_option maxRecDepth 100000 in
set_option maxHeartbeats 8000000 in
theorem engineRun_spec (v1 v2 v3 v4:Value) (e:Eng) (a:Option Addr) (n c:Nat) (L:List Int) (w:World) (h:EngRd w v1 v2 v3 v4 e) (hL:RowI w a n L) :
  Calls Tryz.prog 54 #[.agg #[v1,v2,v3,v4],.slice a n c] w (NewEngI w tEng (eRunM e L)):=by
 have hb0:=((Below.refl w.heap.size w).alloc (Nat.le_refl _) (.cells #[v1,v2,v3,v4] 57)).alloc (by simp) (.cells #[.slice none 0 0,.slice none 0 0,.slice none 0 0,.slice none 0 0] 57)
 have hg0:=(egAt_new w 57 v1 v2 v3 v4).below ((Below.refl _ _).alloc (Nat.le_refl _) (.cells #[.slice none 0 0,.slice none 0 0,.slice none 0 0,.slice none 0 0] 57))
 have hg1:=egAt_new (w.alloc (.cells #[v1,v2,v3,v4] 57)) 57 (.slice none 0 0) (.slice none 0 0) (.slice none 0 0) (.slice none 0 0)
 rw [World.size_alloc] at hg1
 have HR0:=Lib.hid h
 obtain ⟨⟨a1,n1,c1,rfl,-⟩,⟨a2,n2,c2,rfl,-⟩,⟨a3,n3,c3,rfl,-⟩,a4,n4,c4,rfl,-⟩:=h
 obtain ⟨W1,hW1⟩:∃ W1,W1=(w.alloc (.cells #[.slice a1 n1 c1,.slice a2 n2 c2,.slice a3 n3 c3,.slice a4 n4 c4] 57)).alloc (.cells #[.slice none 0 0,.slice none 0 0,.slice none 0 0,.slice none 0 0] 57):=⟨_,rfl⟩
 have HZ1:Hid (W1.heap.size=w.heap.size+2):=Lib.hid (by rw [hW1];simp)
 have HW1:=Lib.hid hW1
 rw [← hW1] at hb0 hg0 hg1
 clear hW1
 have HLN:=Lib.hid hL.1
 have hm:=hL.2.1
 unfold maxLen at hm
 have HKK:=Lib.hid (fun (W':World) (hb:Below W1.heap.size W1 W')=>(⟨hg0.below hb,hg1.below hb,(HR0.out.below hb0).below hb,hb0.trans (hb.mono hb0.size),(hL.below hb0).below hb⟩:EgAt W' w.heap.size (.slice a1 n1 c1) (.slice a2 n2 c2) (.slice a3 n3 c3) (.slice a4 n4 c4)∧EgAt W' (w.heap.size+1) (.slice none 0 0) (.slice none 0 0) (.slice none 0 0) (.slice none 0 0)∧EngRd W' (.slice a1 n1 c1) (.slice a2 n2 c2) (.slice a3 n3 c3) (.slice a4 n4 c4) e∧Below w.heap.size w W'∧RowI W' a n L))
 clear hb0 hg0 hg1 HR0 hL
 go_enter Tryz.func54,Tryz.ntmps54
 go_upto_region 1 with (fail)
 rw [← HW1.out]
 clear HW1
 obtain ⟨⟨k0,k1,k2,k3,-,-,-,-⟩,-,kr,-,-⟩:=HKK.out W1 (Below.refl _ _)
 go_wp2_with fail
 refine (engineValid_spec _ _ _ _ e _ kr).mono ?_;rintro e1 w2 ⟨rfl,hb2⟩
 have HB2:=Lib.hid hb2
 clear k0 k1 k2 k3 kr hb2
 -- the zero engine and -1
 have HNO:Hid (eRunM e L=(noEng,-1)→EgAt (set4 w2 (w.heap.size+1) (.slice none 0 0) (.slice none 0 0) (.slice none 0 0) (.slice none 0 0)) (w.heap.size+1) (.slice none 0 0) (.slice none 0 0) (.slice none 0 0) (.slice none 0 0)∧EngOwn (set4 w2 (w.heap.size+1) (.slice none 0 0) (.slice none 0 0) (.slice none 0 0) (.slice none 0 0)) w.heap.size (set4 w2 (w.heap.size+1) (.slice none 0 0) (.slice none 0 0) (.slice none 0 0) (.slice none 0 0)).heap.size tEng (.slice none 0 0) (.slice none 0 0) (.slice none 0 0) (.slice none 0 0) (eRunM e L).1 []∧Below w.heap.size w (set4 w2 (w.heap.size+1) (.slice none 0 0) (.slice none 0 0) (.slice none 0 0) (.slice none 0 0))∧(eRunM e L).2 = -1):=Lib.hid (fun hh=>by
  have hk:=HKK.out w2 HB2.out
  have hz:=HZ1.out
  have hs:=HB2.out.size
  have hf:=fin_eng hk.2.1 (engOwn_no w2 (w.heap.size+2) (w.heap.size+2) tEng) (by omega) hk.2.2.2.1 (by omega) (by omega)
  rw [hh]
  exact ⟨hf.1,hf.2.1,hf.2.2,rfl⟩)
 cases hv:engB e with
 | false =>
  obtain ⟨hE,hO,hB,hF⟩:=HNO.out (by unfold eRunM;rw [if_neg (fun hh=>by rw [hv] at hh;cases hh.1)])
  obtain ⟨x0,x1,x2,x3,f0,f1,f2,f3⟩:=(HKK.out w2 HB2.out).2.1
  have HE:=Lib.hid hE
  have HO:=Lib.hid hO
  have HB:=Lib.hid hB
  have HFF:=Lib.hid hF
  unfold set4 at HE HO HB
  clear hE hO hB hF HNO hv
  go_wp2_with fail
  refine bodyPost_ret (results_engI Tryz.results54 _ (by rfl) HE.out _ (by rfl)) rfl ⟨_,_,_,_,_,by rw [HFF.out];rfl,HO.out,HB.out⟩
 | true =>
  by_cases h200:n≤200
  · have HF:=Lib.hid (show eRunM e L=eRunTo e L L.length from by unfold eRunM;rw [if_pos ⟨hv,by rw [HLN.out];exact h200⟩])
    have HOK:=Lib.hid ((engB_iff e).1 hv)
    have HOKT:=Lib.hid (eRunTo_ok HOK.out L)
    have hwf:=engWf_ok HOK.out
    have tn:decide ((200:Int) < (n:Int))=false:=by simp;omega
    have tn2:decide (200 < n)=false:=by simp;omega
    obtain ⟨⟨k0,k1,k2,k3,-,-,-,-⟩,-,kr,-,-⟩:=HKK.out w2 HB2.out
    clear HNO hv
    go_wp2_with fail
    refine (l10Copy_spec _ _ _ _ e _ kr hwf.blen hwf.llen hwf.vlen hwf).mono ?_;rintro e1 w3 ⟨x1,x2,x3,x4,ts,rfl,ho2,hb3⟩
    obtain ⟨b1,m1,d1,b2,m2,d2,b3,m3,d3,b4,m4,d4,rfl,rfl,rfl,rfl⟩:=newEng_formS ho2
    have HO2:=Lib.hid ho2
    have HB3:=Lib.hid (HB2.out.trans (hb3.mono HB2.out.size))
    have HS3:Hid (W1.heap.size≤w2.heap.size):=Lib.hid HB2.out.size
    clear k0 k1 k2 k3 kr ho2 hb3 hwf
    go_upto_region 6 with (fail)
    have HSTART:Hid (OutAt (w3.alloc (.cells #[.slice b1 m1 d1,.slice b2 m2 d2,.slice b3 m3 d3,.slice b4 m4 d4] 57)) W1.heap.size w3.heap.size (eRunTo e L 0).1):=Lib.hid
     ⟨b1,m1,d1,b2,m2,d2,b3,m3,d3,b4,m4,d4,ts,_,_,egAt_new w3 _ _ _ _ _,HO2.out.below ((Below.refl _ _).alloc (Nat.le_refl _) _),HS3.out,.inl (Nat.le_refl _),by simp⟩
    have HST2:Hid (Below w3.heap.size w3 (w3.alloc (.cells #[.slice b1 m1 d1,.slice b2 m2 d2,.slice b3 m3 d3,.slice b4 m4 d4] 57))):=Lib.hid ((Below.refl _ _).alloc (Nat.le_refl _) _)
    obtain ⟨Z7,hZ7⟩:∃ Z,Z=w3.heap.size:=⟨_,rfl⟩
    have HZ7:=Lib.hid hZ7
    rw [← hZ7] at HSTART ⊢
    clear hZ7 tn tn2 HO2
    go_wp2_with fail
    go_loopw [6,8] (fun c i wr=>∃ k:Nat,k≤n∧i = .int .i64 k∧c = .int .i64 (eRunTo e L k).2∧OutAt wr W1.heap.size Z7 (eRunTo e L k).1∧Below w3.heap.size w3 wr) (fun _ i _=>n - (intOf i).toNat)
    case atStart=>exact ⟨0,Nat.zero_le _,rfl,rfl,HSTART.out,HST2.out⟩
    case round =>
     obtain ⟨k,hk,rfl,rfl,hout,hb⟩:=hrel
     clear HSTART HST2
     obtain ⟨b1,m1,d1,b2,m2,d2,b3,m3,d3,b4,m4,d4,ts,B,T,hZ,ho,hB,hBT,hT⟩:=hout
     have HZ:=Lib.hid hZ
     have HO:=Lib.hid ho
     have HBW:=Lib.hid hb
     have HBT:=Lib.hid (show W1.heap.size≤B∧(T≤Z7∨Z7 < B)∧T≤wr.heap.size from ⟨hB,hBT,hT⟩)
     have HBWW:=Lib.hid (HB3.out.trans (hb.mono HB3.out.size))
     have hcb:=(HOKT.out k (by rw [HLN.out];exact hk)).2
     obtain ⟨cn,hcn⟩:∃ x,x=(eRunTo e L k).2:=⟨_,rfl⟩
     rw [← hcn] at hcb ⊢
     have HCN:=Lib.hid hcn
     clear hZ ho hB hBT hT hb hcn
     by_cases hlt:k < n
     · obtain ⟨y0,y1,y2,y3,g0,g1,g2,g3⟩:=HZ.out
       obtain ⟨ab,ao,rfl,hcell⟩:=(HKK.out wr HBWW.out).2.2.2.2.2.2.1 (by omega)
       have q0:=hcell k hlt
       have hwv:=(HKK.out wr HBWW.out).2.2.2.2.2.2.2 _ (getD_mem L k (by rw [HLN.out];exact hlt))
       have HNX:=Lib.hid (eRunTo_next (e:=e) (show k < L.length by rw [HLN.out];exact hlt))
       have hokk:=(HOKT.out k (by rw [HLN.out];exact hk)).1
       obtain ⟨ek,hek⟩:∃ x,x=(eRunTo e L k).1:=⟨_,rfl⟩
       obtain ⟨v,hvv⟩:∃ x,x=L.getD k 0:=⟨_,rfl⟩
       rw [← hek] at hokk
       have HO':=HO.out
       rw [← hek] at HO'
       rw [← hvv] at q0 hwv
       have HNX2:Hid (eRunTo e L (k+1)=eStep (ek,cn) v):=Lib.hid (by rw [HNX.out,hek,HCN.out,hvv])
       clear HO HNX hcell hek hvv HCN
       have hza:=HZ.out.lt
       have hzs:ab < wr.heap.size:=World.block_lt_of_cell? wr ⟨ab,ao+k,none⟩ q0
       have HTY:=Lib.hid (fun (W:World) (hb:Below wr.heap.size wr W)=>l11Step_spec _ _ _ _ ek v W (HO'.rd.below hb) hokk hwv)
       have HKP:=Lib.hid (fun W' (hb:Below wr.heap.size wr W')=>(⟨⟨below_cs hb hza y0,below_cs hb hza y1,below_cs hb hza y2,below_cs hb hza y3⟩,below_cs hb hzs q0⟩:(_∧_∧_∧_)∧_))
       have i1:(0:Int)≤(k:Int):=by omega
       have i2:(k:Int) < (n:Int):=by omega
       obtain ⟨st,hst⟩:∃ x,x=stepL ek v:=⟨_,rfl⟩
       rw [← hst] at HTY
       have HNX3:Hid (eRunTo e L (k+1)=(st.1,if st.2=true then cn+1 else cn)):=Lib.hid (by rw [HNX2.out,hst];rfl)
       clear HNX2 hst hokk hwv HO' hza hzs
       obtain ⟨se,sb⟩:=st
       go_upto_region 8 with (fail)
       go_region_held3 (fun w'=>(w'.cell? ⟨Z7,0,none⟩=some (.slice b1 m1 d1)∧w'.cell? ⟨Z7,1,none⟩=some (.slice b2 m2 d2)∧w'.cell? ⟨Z7,2,none⟩=some (.slice b3 m3 d3)∧w'.cell? ⟨Z7,3,none⟩=some (.slice b4 m4 d4))∧w'.cell? ⟨ab,ao+k,none⟩=some (.int .i64 v))
        (first | (with_reducible exact hkp) | ((with_reducible refine HKP.out _ ?_);(repeat' (with_reducible (first | exact hb7 | exact Below.refl _ _ | refine Below.drew ?_ | refine Below.alloc ?_ hb7.size _ | refine Below.alloc ?_ (Nat.le_refl _) _ | refine below_stored ?_ hb7.size _ _ | refine below_stored ?_ (Nat.le_refl _) _ _)));done))
        (first
         | (go_at_call 120;(with_reducible refine (HTY.out wr.drew (Below.refl _ _).drew).mono ?_);rintro e1 w7 ⟨u1,u2,u3,u4,ts7,rfl,ho7,hb7'⟩;obtain ⟨p1,r1,s1,p2,r2,s2,p3,r3,s3,p4,r4,s4,rfl,rfl,rfl,rfl⟩:=newEng_formS ho7;have hb7:Below wr.heap.size wr w7:=(Below.refl _ _).drew.trans hb7';have hkp:=HKP.out _ hb7)
         | (go_at_call 120;(with_reducible refine (HTY.out (wr.alloc (.cells #[.slice none 0 0,.slice none 0 0,.slice none 0 0,.slice none 0 0] 57)).drew (((Below.refl _ _).alloc (Nat.le_refl _) _).drew)).mono ?_);rintro e1 w7 ⟨u1,u2,u3,u4,ts7,rfl,ho7,hb7'⟩;obtain ⟨p1,r1,s1,p2,r2,s2,p3,r3,s3,p4,r4,s4,rfl,rfl,rfl,rfl⟩:=newEng_formS ho7;have hb7:Below wr.heap.size wr w7:=(((Below.refl _ _).alloc (Nat.le_refl _) _).drew).trans (hb7'.mono (by simp));have hkp:=HKP.out _ hb7;have hea:=(egAt_new wr 57 (.slice none 0 0) (.slice none 0 0) (.slice none 0 0) (.slice none 0 0)).below ((Below.refl _ _).drew.trans hb7');obtain ⟨z0,z1,z2,z3,zf0,zf1,zf2,zf3⟩:=id hea))
       all_goals first
        | (have hEF:=engF_set (x1:=.slice p1 r1 s1) (x2:=.slice p2 r2 s2) (x3:=.slice p3 r3 s3) (x4:=.slice p4 r4 s4) hb7 hea ho7;generalize hFw:World.setCell _ _ _=F at hEF ⊢;generalize hEe:wr.heap.size=E at hEF ⊢)
        | (have hEF:=engF_alloc (T:=57) (x1:=.slice p1 r1 s1) (x2:=.slice p2 r2 s2) (x3:=.slice p3 r3 s3) (x4:=.slice p4 r4 s4) hb7 ho7;generalize hFw:World.alloc w7 _=F at hEF ⊢;generalize hEe:w7.heap.size=E at hEF ⊢)
       all_goals
        rename_i hHeld;clear hHeld hkp hb7 hb7' ho7 HTY HKP
        clear hFw hEe q0 y0 y1 y2 y3 g0 g1 g2 g3
        have HEF:=Lib.hid hEF
        obtain ⟨hbF,hea,-,-⟩:=hEF
        have HZF:=Lib.hid (HZ.out.below hbF)
        have hzz:=HB3.out.size;have hz3:=HZ7.out;have hbt:=HBT.out;have hwz:=HBWW.out.size
        have HOUT:=Lib.hid (outAt_set (B0:=W1.heap.size) HEF.out HZ.out hwz)
        have HBN:Hid (Below w3.heap.size w3 (set4 F Z7 (.slice p1 r1 s1) (.slice p2 r2 s2) (.slice p3 r3 s3) (.slice p4 r4 s4))):=Lib.hid ((set4_turn F Z7 _ _ _ _).below (HBW.out.trans (hbF.mono HBW.out.size)) (by omega) (by have:=hbF.size;have:=HBW.out.size;omega))
        unfold set4 at HOUT HBN
        clear hzz hz3 hbt hwz
        obtain ⟨z0,z1,z2,z3,-,-,-,-⟩:=hea
        obtain ⟨y0,y1,y2,y3,g0,g1,g2,g3⟩:=HZF.out
        have ewc:IntKind.i64.wrap (cn+1)=cn+1:=IntWalk.i64_in _ (by omega)
        have ewk:IntKind.i64.wrap ((k:Int)+1)=(k:Int)+1:=IntWalk.i64_in _ (by omega)
        clear hbF HEF HZ HBT HBW hcb
        cases sb with
        | true =>
         go_wp2_with fail
         go_roundw
         case rel=>exact ⟨k+1,by omega,by go_num,by rw [HNX3.out];rfl,by rw [HNX3.out];exact HOUT.out,HBN.out⟩
         case measure=>simp [intOf];omega
        | false =>
         go_wp2_with fail
         go_roundw
         case rel=>exact ⟨k+1,by omega,by go_num,by rw [HNX3.out];rfl,by rw [HNX3.out];exact HOUT.out,HBN.out⟩
         case measure=>simp [intOf];omega
     · obtain rfl:k=n:=by omega
       obtain ⟨x0,x1,x2,x3,f0,f1,f2,f3⟩:=(HKK.out wr HBWW.out).2.1
       obtain ⟨y0,y1,y2,y3,-,-,-,-⟩:=HZ.out
       have HFE:Hid (EgAt (set4 wr (w.heap.size+1) (.slice b1 m1 d1) (.slice b2 m2 d2) (.slice b3 m3 d3) (.slice b4 m4 d4)) (w.heap.size+1) (.slice b1 m1 d1) (.slice b2 m2 d2) (.slice b3 m3 d3) (.slice b4 m4 d4)∧EngOwn (set4 wr (w.heap.size+1) (.slice b1 m1 d1) (.slice b2 m2 d2) (.slice b3 m3 d3) (.slice b4 m4 d4)) w.heap.size (set4 wr (w.heap.size+1) (.slice b1 m1 d1) (.slice b2 m2 d2) (.slice b3 m3 d3) (.slice b4 m4 d4)).heap.size tEng (.slice b1 m1 d1) (.slice b2 m2 d2) (.slice b3 m3 d3) (.slice b4 m4 d4) (eRunTo e L k).1 ts∧Below w.heap.size w (set4 wr (w.heap.size+1) (.slice b1 m1 d1) (.slice b2 m2 d2) (.slice b3 m3 d3) (.slice b4 m4 d4))):=Lib.hid (by
        have hk:=HKK.out wr HBWW.out
        have hz:=HZ1.out
        have hbt:=HBT.out
        exact fin_eng hk.2.1 HO.out (by omega) hk.2.2.2.1 (by omega) hbt.2.2)
       have HEE:=Lib.hid HFE.out.1
       have HF2:Hid (eRunM e L=((eRunTo e L k).1,cn)):=Lib.hid (by rw [HF.out,HLN.out,HCN.out])
       unfold set4 at HFE HEE
       clear hcb hlt
       go_wp2_with fail
       refine bodyPost_ret (results_engI Tryz.results54 _ (by rfl) HEE.out _ (by rfl)) rfl ⟨_,_,_,_,_,by rw [HF2.out];rfl,by rw [HF2.out];exact HFE.out.2.1,HFE.out.2.2⟩
  · have tn:decide ((200:Int) < (n:Int))=true:=by simp;omega
    have tn2:decide (200 < n)=true:=by simp;omega
    obtain ⟨hE,hO,hB,hF⟩:=HNO.out (by unfold eRunM;rw [if_neg (fun hh=>h200 (by rw [← HLN.out];exact hh.2))])
    obtain ⟨x0,x1,x2,x3,f0,f1,f2,f3⟩:=(HKK.out w2 HB2.out).2.1
    have HE:=Lib.hid hE
    have HO:=Lib.hid hO
    have HB:=Lib.hid hB
    have HFF:=Lib.hid hF
    unfold set4 at HE HO HB
    clear hE hO hB hF HNO hv h200
    go_wp2_with fail
    refine bodyPost_ret (results_engI Tryz.results54 _ (by rfl) HE.out _ (by rfl)) rfl ⟨_,_,_,_,_,by rw [HFF.out];rfl,HO.out,HB.out⟩
end Go.Proofs.YtaaffpolmecicabGreat
/- The contract of the model's EngineStep (gen14/engsr.py). -/
namespace Go.Proofs.YtaaffpolmecicabGreat
open Go.RowKit
set_option linter.unusedVariables false
set_option linter.unusedSimpArgs false
end Go.Proofs.YtaaffpolmecicabGreat

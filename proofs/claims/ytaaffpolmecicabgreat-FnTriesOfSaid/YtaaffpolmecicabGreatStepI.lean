/- Texts of ours that stand together: ImplStepE, ImplStepC, ImplStepT, ImplStepS, ImplStepO, ImplCanF -/
import Derived.Test.YtaaffpolmecicabGreatStepG
import Derived.Test.YtaaffpolmecicabGreatCopG
import Derived.Test.YtaaffpolmecicabGreatTwo
import Derived.Test.YtaaffpolmecicabGreatKeyA
import Derived.Test.YtaaffpolmecicabGreatSpecE0
import Derived.Deep.RegionHeld3
import Derived.Test.YtaaffpolmecicabGreatTenB
import Derived.Test.YtaaffpolmecicabGreatKeyB
import Derived.Test.YtaaffpolmecicabGreatKeyC
import Derived.Test.YtaaffpolmecicabGreatSix
import Derived.Test.YtaaffpolmecicabGreatFive
import Derived.Test.YtaaffpolmecicabGreatImplNum
import Derived.RegionTactic
import Derived.Test.YtaaffpolmecicabGreatRegT
import Derived.Test.YtaaffpolmecicabGreatRegJ
import Derived.Deep.Cut
/- The contract of the program's steppingEngine.engine. -/
namespace Go.Proofs.YtaaffpolmecicabGreat
open Go.RowKit
set_option linter.unusedVariables false
set_option linter.unusedSimpArgs false
theorem fin_st {w w0 W:World} {Z B:Nat} {t:EngT} {e:Eng} {ts:List (Value × Value × Value)} {xL xS xQ qv v1 v3 y1 y2 y3 y4:Value} {G:Nat} {T:TypeId} {vs:List Value} {Q:List Int} {d:Nat} (hs:StIn w G B T t e xL xS xQ qv ts vs Q d) (hB:B≤w.heap.size)
  (hz:EgAt W Z y1 y2 y3 y4) (hz1:w.heap.size≤Z) (hz2:Z < w0.heap.size) (hb:Below w.heap.size w W) (hR:OwnR W w0.heap.size W.heap.size [⟨v1,t.tE,2,e.base.length,flatE e.base⟩,⟨v3,t.tV,3,e.vers.length,flatV e.vers⟩]) :
  EgAt (set4 W Z v1 xL v3 xS) Z v1 xL v3 xS∧EngOwn (set4 W Z v1 xL v3 xS) B (set4 W Z v1 xL v3 xS).heap.size t v1 xL v3 xS e ts∧Below w.heap.size w (set4 W Z v1 xL v3 xS):=by
 have h1:OwnR W B w.heap.size (⟨xL,t.tA,4,e.list.length,flatA e.list⟩ :: ⟨xS,t.tS,6,e.slots.length,slsCs e.slots ts⟩ :: slsRs t.tI t.tE e.slots ts):=(hs.own.below hb).sub (by unfold stRs;exact List.sublist_cons_self _ _)
 have h2:=h1.turn (set4_turn W Z v1 xL v3 xS) (.inl hz1)
 have h3:=hR.turn (set4_turn W Z v1 xL v3 xS) (.inr (.inl hz2))
 have h4:=h2.append h3 (by omega) (by omega) hb.size
 refine ⟨hz.set4 _ _ _ _,⟨hs.tl,?_,hs.wf⟩,(set4_turn W Z _ _ _ _).below hb hz1 hb.size⟩
 rw [set4_size]
 refine h4.perm ?_
 unfold engRs
 have e1:∀ (a b c d:Rw) (X:List Rw),(a :: b :: X++[c,d]).Perm (c :: a :: d :: b :: X):=fun a b c d X=>by
  have p1:(a :: b :: X++[c,d]).Perm ([c,d]++a :: b :: X):=List.perm_append_comm
  refine p1.trans ?_
  refine List.Perm.cons _ ?_
  exact List.Perm.swap _ _ _
 exact e1 _ _ _ _ _
theorem rangeAt_other {W:World} {G o:Nat} {A:List Value} (h:W.rangeAt G o A) {Z:Nat} (hne:G≠Z) (k:Nat) (v:Value):(W.setCell ⟨Z,k,none⟩ v).rangeAt G o A:=fun j u hj=>(World.cell?_of_block (a:=⟨G,o+j,none⟩) (Below.heap_setCell _ _ _ _ hne)).trans (h j u hj)
theorem cell_other {W:World} {G o:Nat} {x:Value} (h:W.cell? ⟨G,o,none⟩=some x) {Z:Nat} (hne:G≠Z) (k:Nat) (v:Value):(W.setCell ⟨Z,k,none⟩ v).cell? ⟨G,o,none⟩=some x:=(World.cell?_of_block (a:=⟨G,o,none⟩) (Below.heap_setCell _ _ _ _ hne)).trans h
theorem st_keep4 {W:World} {G Z:Nat} {A:List Value} {xL xS:Value} (hne:G≠Z) (a b c d:Value) (h:W.rangeAt G 0 A∧W.cell? ⟨G,32,none⟩=some xL∧W.cell? ⟨G,65,none⟩=some xS) :
  ((((W.setCell ⟨Z,0,none⟩ a).setCell ⟨Z,1,none⟩ b).setCell ⟨Z,2,none⟩ c).setCell ⟨Z,3,none⟩ d).rangeAt G 0 A∧((((W.setCell ⟨Z,0,none⟩ a).setCell ⟨Z,1,none⟩ b).setCell ⟨Z,2,none⟩ c).setCell ⟨Z,3,none⟩ d).cell? ⟨G,32,none⟩=some xL∧((((W.setCell ⟨Z,0,none⟩ a).setCell ⟨Z,1,none⟩ b).setCell ⟨Z,2,none⟩ c).setCell ⟨Z,3,none⟩ d).cell? ⟨G,65,none⟩=some xS :=
 ⟨rangeAt_other (rangeAt_other (rangeAt_other (rangeAt_other h.1 hne _ _) hne _ _) hne _ _) hne _ _,cell_other (cell_other (cell_other (cell_other h.2.1 hne _ _) hne _ _) hne _ _) hne _ _,cell_other (cell_other (cell_other (cell_other h.2.2 hne _ _) hne _ _) hne _ _) hne _ _⟩
def OutSt (w:World) (B:Nat) (t:EngT) (e:Eng) (en:Ending) (w':World):Prop :=
 ∃ v1 v2 v3 v4 ts,en = .returned (.agg #[v1,v2,v3,v4])∧EngOwn w' B w'.heap.size t v1 v2 v3 v4 e ts∧Below w.heap.size w w'
set_option maxRecDepth 100000 in
set_option maxHeartbeats 8000000 in
theorem stEngine_impl (G B:Nat) (T:TypeId) (e:Eng) (w:World) (h:StAt w G B T tEng e) (hok:EngOk e) (hB:B≤w.heap.size) :
  Calls Tryz.prog 108 #[.pointer (some ⟨G,0,none⟩)] w (OutSt w B tEng e):=by
 obtain ⟨xL,xS,xQ,qv,ts,vs,Q,d,hst⟩:=h
 have HST:=Lib.hid hst
 have HOKV:=Lib.hid hok.vok
 have HENT:Hid (entTo (arrOf e.base) 32=e.base):=Lib.hid (ent_arr ((storeB_ok e.base).1 hok.base))
 have HCAT:Hid (catK (ofK e.vers) 32=e.vers):=Lib.hid (catK_ofK hok.vok)
 obtain ⟨aL,nL,cL,hxL,-⟩:=hst.rowL
 obtain ⟨aS,nS,cS,hxS,-⟩:=hst.slots
 subst hxL hxS
 clear hst hok
 go_enter Tryz.func108,Tryz.ntmps108
 go_upto_region 1 with (fail)
 obtain ⟨w0,hw0⟩:∃ w0,w0=w.alloc (.cells #[.slice none 0 0,.slice none 0 0,.slice none 0 0,.slice none 0 0] 57):=⟨_,rfl⟩
 rw [← hw0]
 have hb0:Below w.heap.size w w0:=by rw [hw0];exact (Below.refl _ _).alloc (Nat.le_refl _) _
 have hz:EgAt w0 w.heap.size (.slice none 0 0) (.slice none 0 0) (.slice none 0 0) (.slice none 0 0):=by rw [hw0];exact egAt_new w _ _ _ _ _
 have hst0:=HST.out.below hb0
 have hu : Tryz.prog.underlying 103 = some (.array 32 3):=Tryz.underlying103
 have hi:(Tryz.prog.info? 103).map (·.size)=some (valC (arrOf e.base)).length:=by rw [valC_len,arrOf_len];exact infoArr
 have HKP:=Lib.hid (fun W' (hb:Below w0.heap.size w0 W')=>(⟨(hst0.below hb).vals,(hst0.below hb).c32,(hst0.below hb).c65⟩ : _∧_∧_))
 obtain ⟨g0,g1,g2⟩:=HKP.out w0 (Below.refl _ _)
 have HC1:=Lib.hid (fun (W:World)=>entries_impl (arrOf e.base) W (arrOf_len _))
 have HC2:=Lib.hid (fun (W:World) (hb:Below w0.heap.size w0 W)=>list_o G B 33 T 73 _ _ vs _ W (hst0.below hb).kv (pre33 _ _) (kok_ofK HOKV.out))
 have HZ:=Lib.hid (fun (W:World) (hb:Below w0.heap.size w0 W)=>hz.below hb)
 have HZL:=Lib.hid hz.lt
 have HB0:=Lib.hid hb0
 have HNE:Hid (G≠w.heap.size):=Lib.hid (by have:=HST.out.lt;omega)
 clear hw0 hb0 hz hst0
 go_region_held3 (fun w'=>w'.rangeAt G 0 (valC (arrOf e.base))∧w'.cell? ⟨G,32,none⟩=some (.slice aL nL cL)∧w'.cell? ⟨G,65,none⟩=some (.slice aS nS cS))
  (first | (with_reducible exact st_keep4 HNE.out _ _ _ _ hkp2) | (with_reducible exact hkp2) | (with_reducible exact hkp) | (with_reducible exact HKP.out _ (Below.refl _ _).drew))
  (first
   | (go_at_call 83;refine (HC1.out w0.drew).mono ?_;rintro e1 w3 ⟨v3,rfl,ho3,hb3'⟩;obtain ⟨p3,q3,k3,rfl⟩:=slice_form ho3;have hb3:Below w0.heap.size w0 w3:=(Below.refl _ _).drew.trans hb3';have hkp:=HKP.out _ hb3)
   | (go_at_call 79;(with_reducible refine (HC2.out w3 hb3).mono ?_);rintro e1 w4 ⟨v4,rfl,ho4,hw4,hb4'⟩;obtain ⟨p4,q4,k4,rfl⟩:=slice_form ho4;have hb4:Below w0.heap.size w0 w4:=hb3.trans (hb4'.mono hb3.size);have hkp2:=HKP.out _ hb4;obtain ⟨zz0,zz1,zz2,zz3,zf0,zf1,zf2,zf3⟩:=HZ.out _ hb4))
 rw [HENT.out] at ho3
 rw [HCAT.out] at ho4
 have hR:=ownR_two (w0:=w0) (r:=⟨.slice p3 q3 k3,43,2,e.base.length,flatE e.base⟩) (s:=⟨.slice p4 q4 k4,73,3,e.vers.length,flatV e.vers⟩) ho3 hb4' ho4 hb3.size
 have hs0:=HB0.out.size
 have hfin:=fin_st (t:=tEng) HST.out hB (HZ.out _ hb4) (Nat.le_refl _) HZL.out (HB0.out.trans (hb4.mono hs0)) hR
 have HE:=Lib.hid hfin.1
 have HO:=Lib.hid hfin.2.1
 have HB:=Lib.hid hfin.2.2
 unfold set4 at HE HO HB
 clear hfin hR hkp hkp2 hb3 hb3' hb4 hb4' ho3 ho4 hw4 zz0 zz1 zz2 zz3 zf0 zf1 zf2 zf3
 go_wp2_with fail
 refine bodyPost_ret (results_eng Tryz.results108 _ (by rfl) HE.out) rfl ⟨_,_,_,_,_,rfl,HO.out,HB.out⟩
end Go.Proofs.YtaaffpolmecicabGreat
/- The contract of the program's steppingEngine.checkFirst. -/
namespace Go.Proofs.YtaaffpolmecicabGreat
open Go.RowKit
set_option linter.unusedVariables false
set_option linter.unusedSimpArgs false
def StepT (G B:Nat) (T:TypeId) (e:Eng) (w:World) (en:Ending) (w':World):Prop :=
 en = .returned (.tuple #[])∧StAt w' G B T tEng e∧Below B w w'
theorem drop_ofK (L:List Ver) (k:Nat) (b:Int):dropL (ofK L k) b=ofK (dropL L b) k:=by
 unfold dropL ofK
 rw [List.filter_filter,List.filter_filter]
 congr 1
 funext x
 exact Bool.and_comm _ _
set_option maxRecDepth 100000 in
set_option maxHeartbeats 8000000 in
theorem checkFirst_impl (G B n:Nat) (T:TypeId) (e:Eng) (w:World) (h:StAt w G B T tEng e) (hok:EngOk e) (hn:n < e.slots.length) (h1:stg e n=1) (hc:n=chkN e) (hBG:B≤G) :
  Calls Tryz.prog 160 #[.pointer (some ⟨G,0,none⟩)] w (StepT G B T (stepN e n).1 w):=by
 obtain ⟨xL,xS,xQ,qv,ts,vs,Q,d,hst⟩:=h
 have HST:=Lib.hid hst
 have HOK:=Lib.hid hok
 have HN:=Lib.hid hn
 have HC:=Lib.hid hc
 have H1:=Lib.hid h1
 have hten:=hok.ten
 obtain ⟨b,cp,hqv,hqc,hbG,hqq⟩:=hst.first (by rw [← hc];exact hn)
 obtain ⟨aS,nS,cS,hxS,hrS,-⟩:=hst.slots
 subst hqv hxS
 obtain rfl:e.slots.length=nS:=hrS.1
 obtain ⟨gS,oS,haS,hsl⟩:=hrS.at n hn
 obtain ⟨g,rfl,-⟩:∃ g,aS=some ⟨g,0,none⟩∧True:=by
  rcases slice_of_owns hst.rowS with ⟨hq,-⟩ | ⟨g,cap,hq,-⟩
  · simp only [Value.slice.injEq] at hq;rw [hq.1] at haS;cases haS
  · simp only [Value.slice.injEq] at hq;exact ⟨g,hq.1,trivial⟩
 simp only [Option.some.injEq,Addr.mk.injEq,and_true] at haS
 obtain ⟨rfl,rfl⟩:=haS
 rw [Nat.zero_add] at hsl
 have hso:=slot_old (hok.act hn) (hok.slot n hn) (by unfold stg at h1;rw [h1];decide)
 have HSO:=Lib.hid hso
 have HRS:=Lib.hid (fun (W:World) (hb:Below w.heap.size w W) (s:Slt) (hs:s=e.slots.getD n noSlt) (a1:Option Addr) (n1 c1:Nat) (a2:Option Addr) (n2 c2:Nat) (a3:Option Addr) (n3 c3:Nat) (q1:RowI W a1 n1 s.from_) (q2:RowE W a2 n2 s.res.rds) =>
  (readsSame_o s n e.base e.vers (arrOf e.base) G B 33 T _ _ vs a1 n1 c1 a2 n2 c2 a3 n3 c3 W q1 q2 (hst.below hb).kv (pre33 _ _) hok.vok (arrOf_len _) (arrOf_get _) (fun r hr=>by
   rw [hs,hso.rds] at hr
   obtain ⟨key,hkey,rfl⟩:=List.mem_map.1 hr
   exact readsM_bd _ key hkey) (by rw [hs,hso.rds,List.length_map,hso.flen];exact Nat.le_refl _)))
 obtain ⟨s,hs⟩:∃ s,s=e.slots.getD n noSlt:=⟨_,rfl⟩
 rw [← hs] at hsl
 obtain ⟨s0,s1,⟨v2,s2,av,nv,cv,rfl,hrv,-,-⟩,s3,⟨v4,s4,aw,nw,cw,rfl,hrw,-,-⟩,v5,s5,ax,nx,cx,rfl,hrx,-,-⟩:=hsl
 have HRC:=Lib.hid (fun (W:World) (hb:Below w.heap.size w W)=>HRS.out W hb s hs av nv cv aw nw cw ax nx cx (hrv.below hb) (hrw.below hb))
 have hsm:sameS e.base e.vers s n=sameB e n:=by rw [hs];rfl
 rw [hsm,← valC_cells] at HRC
 have HS:=Lib.hid hs
 obtain ⟨sm,hsmv⟩:∃ x,x=sameB e n:=⟨_,rfl⟩
 rw [← hsmv] at HRC
 have HSM:=Lib.hid hsmv
 have c65:=hst.c65
 have c66:=hst.c66
 have hgl:g < w.heap.size:=World.block_lt_of_cell? w ⟨g,n*6,none⟩ s0
 have hGl:=hst.lt
 have hml:0 < e.slots.length - chkN e:=by omega
 rw [← hc] at hqq c66 hml hqc
 obtain ⟨m,hm⟩:∃ m,m=e.slots.length - n:=⟨_,rfl⟩
 rw [← hm] at c66 hml hqc
 obtain ⟨L,hL⟩:∃ L,L=e.slots.length:=⟨_,rfl⟩
 rw [← hL] at c65 hn hten hm
 have HL:=Lib.hid hL
 have HM:=Lib.hid hm
 have i0:(0:Int) < (m:Int):=by omega
 have i1:(0:Int)≤(n:Int):=by omega
 have i2:(n:Int) < (L:Int):=by omega
 have HKP:=Lib.hid (fun W' (hb:Below w.heap.size w W')=>(⟨(hst.below hb).vals,below_cz hb hgl s0,below_cz hb hgl s1,below_cz hb hgl s2,below_cz hb hgl s3,below_cz hb hgl s4,below_cz hb hgl s5⟩ : _∧_∧_∧_∧_∧_∧_))
 have hu : Tryz.prog.underlying 103 = some (.array 32 3):=Tryz.underlying103
 have hi:(Tryz.prog.info? 103).map (·.size)=some (valC (arrOf e.base)).length:=by rw [valC_len,arrOf_len];exact infoArr
 clear hst hok hso hc h1 hrS hrv hrw hrx hs hsm hsmv HRS hm hL hn
 go_enter Tryz.func160,Tryz.ntmps160
 go_upto_region 2 with (fail)
 go_region_held3 (fun w'=>w'.rangeAt G 0 (valC (arrOf e.base))∧w'.cell? ⟨g,n*6,none⟩=some (.int .i64 s.stage)∧w'.cell? ⟨g,n*6+1,none⟩=some (.int .i64 s.tries)∧w'.cell? ⟨g,n*6+2,none⟩=some (.slice av nv cv)∧w'.cell? ⟨g,n*6+3,none⟩=some (.bool s.res.done)∧w'.cell? ⟨g,n*6+4,none⟩=some (.slice aw nw cw)∧w'.cell? ⟨g,n*6+5,none⟩=some (.slice ax nx cx))
  (first | (with_reducible exact hkp) | (with_reducible exact HKP.out _ (Below.refl _ _).drew))
  (first
   | (go_at_call 115;(with_reducible refine (HRC.out w.drew (Below.refl _ _).drew).mono ?_);rintro e1 w3 ⟨rfl,hb3'⟩;have hb3:Below w.heap.size w w3:=(Below.refl _ _).drew.trans hb3';have hkp:=HKP.out _ hb3))
 obtain ⟨-,t0,t1,t2,t3,t4,t5⟩:=hkp
 have hst3:=HST.out.below hb3
 have HB3:=Lib.hid hb3
 have c66':=hst3.c66
 rw [← HC.out,← HL.out,← HM.out] at c66'
 have fG:=hst3.frozen 66
 have f0:=World.ownsRow.frozenAt hst3.rowS (n*6)
 have HST3:=Lib.hid hst3
 have hgG:g≠G:=fun e1=>HST.out.off ⟨.slice (some ⟨g,0,none⟩) e.slots.length cS,tEng.tS,6,e.slots.length,slsCs e.slots ts⟩ (by simp [stRs]) g rfl (.inl e1)
 clear hb3 hb3' hst3 s0 s1 s2 s3 s4 s5 c65 c66 hqq hi hu
 have hok2:=step_ok HOK.out HN.out
 have hBw3:B≤w3.heap.size:=by have:=HST3.out.lt;omega
 have hBg:B≤g:=by have:=(HST.out.own.ge (r:=⟨.slice (some ⟨g,0,none⟩) e.slots.length cS,tEng.tS,6,e.slots.length,slsCs e.slots ts⟩) (by simp [stRs]) (b:=g) rfl).1;exact this
 have HB3B:Hid (Below B w w3):=Lib.hid (HB3.out.mono (by have:=HST.out.lt;omega))
 cases sm with
 | true =>
  have hse:=step_ok1 HOK.out HN.out H1.out HC.out HSM.out.symm
  have HPOP:Hid (∀ (a:Option Addr) (k cp':Nat),k=m - 1→m - 1≤cp'→(d+1 < Q.length→a=some ⟨b,d+1,none⟩)→StAt ((w3.setCell ⟨g,n*6,none⟩ (.int .i64 2)).setCell ⟨G,66,none⟩ (.slice a k cp')) G B T tEng (stepN e n).1):=Lib.hid (fun a k cp' hk h1 h2=>by
   subst hk
   rw [hse] at hok2 ⊢
   have hqi:=HST.out.qi
   have hql:=hqi.len
   obtain ⟨_,_,hq1,-,hq3⟩:=HST.out.qu
   have hL:=HL.out
   have hM:=HM.out
   have hC:=HC.out
   have hN:=HN.out
   have hd:d < Q.length:=by omega
   obtain ⟨b',hb1,hb2⟩:=hq3 hd
   simp only [Value.slice.injEq] at hq1
   rw [← hq1.1] at hb1
   simp only [Option.some.injEq,Addr.mk.injEq,and_true] at hb1
   refine ⟨_,_,_,_,_,_,_,_,HST3.out.pop HN.out (qv':=.slice a (m - 1) cp') ⟨a,cp',by rw [show Q.length - (d+1)=m - 1 by omega],by omega,fun h=>⟨b,h2 h,by rw [hb1];exact hb2⟩⟩ (qIs_pop HOK.out HN.out HC.out hok2 rfl hqi)⟩)
  have HBB:Hid (∀ v,Below B w ((w3.setCell ⟨g,n*6,none⟩ (.int .i64 2)).setCell ⟨G,66,none⟩ v)):=Lib.hid (fun v=>(HB3B.out.setCell (by exact hBg) _).setCell (by exact hBG) _)
  have HQL:Hid (cp=1→¬ d+1 < Q.length):=Lib.hid (fun h=>by
   have:=HST.out.qi.len
   have hL:=HL.out;have hM:=HM.out;have hC:=HC.out;omega)
  have hcp1:(1:Int)≤(m:Int):=by omega
  have hcp2:(m:Int)≤(cp:Int):=by omega
  clear hse hok2 hBw3
  by_cases hc1:cp=1
  · have HQ2:=Lib.hid (HQL.out hc1)
    have hc2:1=cp:=hc1.symm
    subst hc1
    go_wp2_with fail
    refine bodyPost_ret (v:=.tuple #[]) ?_ rfl ⟨rfl,HPOP.out _ _ _ (by omega) (by omega) (fun h=>absurd h HQ2.out),HBB.out _⟩
    simp [results,Tryz.results160]
  · have hc2:¬ 1=cp:=fun h=>hc1 h.symm
    go_wp2_with fail
    refine bodyPost_ret (v:=.tuple #[]) ?_ rfl ⟨rfl,HPOP.out _ _ _ (by omega) (by omega) (fun _=>rfl),HBB.out _⟩
    simp [results,Tryz.results160]
 | false =>
  have hse:=step_bad1 HOK.out HN.out H1.out HC.out HSM.out.symm
  have HDR:=Lib.hid (drop_o G B 33 T _ _ vs (ofK e.vers) (n:Int) w3 HST3.out.kv (pre33 _ _) (kok_ofK HOK.out.vok) hBw3)
  have HGO:Hid (¬ TouchV G vs g):=Lib.hid (HST.out.off ⟨.slice (some ⟨g,0,none⟩) e.slots.length cS,tEng.tS,6,e.slots.length,slsCs e.slots ts⟩ (by simp [stRs]) g rfl)
  have hg3:g < w3.heap.size:=World.block_lt_of_cell? w3 ⟨g,n*6,none⟩ t0
  have HFR:=Lib.hid (fun j=>World.ownsRow.frozenAt HST3.out.rowS j)
  clear fG f0 c66'
  go_wp2_with (first | (go_at_call 77;refine HDR.out.mono ?_;rintro e1 w4 ⟨rfl,vs',hk',hf',hn'⟩;have hgb:=hf'.block g hg3 HGO.out;have r0:=(World.cell?_of_block (a:=⟨g,n*6,none⟩) hgb).trans t0;have r1:=(World.cell?_of_block (a:=⟨g,n*6+1,none⟩) hgb).trans t1;have r2:=(World.cell?_of_block (a:=⟨g,n*6+2,none⟩) hgb).trans t2;have r3:=(World.cell?_of_block (a:=⟨g,n*6+3,none⟩) hgb).trans t3;have r4:=(World.cell?_of_block (a:=⟨g,n*6+4,none⟩) hgb).trans t4;have r5:=(World.cell?_of_block (a:=⟨g,n*6+5,none⟩) hgb).trans t5;have k0:=(World.frozen?_of_block (a:=⟨g,n*6,none⟩) hgb).trans (HFR.out _);have k1:=(World.frozen?_of_block (a:=⟨g,n*6+1,none⟩) hgb).trans (HFR.out _);have k2:=(World.frozen?_of_block (a:=⟨g,n*6+2,none⟩) hgb).trans (HFR.out _);have k3:=(World.frozen?_of_block (a:=⟨g,n*6+3,none⟩) hgb).trans (HFR.out _);have k4:=(World.frozen?_of_block (a:=⟨g,n*6+4,none⟩) hgb).trans (HFR.out _);have k5:=(World.frozen?_of_block (a:=⟨g,n*6+5,none⟩) hgb).trans (HFR.out _)))
  have hns:OwnR w3 w3.heap.size w3.heap.size (slRs tEng.tI tEng.tE ⟨0,s.tries,[],noEff⟩ nil3):=(OwnR.nil _ _ _).addNils _ (fun r hr=>by
   simp only [slRs,nil3,List.mem_cons,List.not_mem_nil,or_false] at hr
   rcases hr with rfl | rfl | rfl <;> exact ⟨rfl,rfl,rfl⟩)
  rw [hse,← HS.out] at hok2
  have hstep:=HST3.out.step (Below.refl _ _) HN.out (s:=⟨0,s.tries,[],noEff⟩) (tt:=nil3) hns (hk'.congr (G:=ofK (dropL e.vers (n:Int))) (fun k _=>drop_ofK e.vers k n)) hf' hn' hBw3 (engWf_ok hok2) (qIs_put HOK.out HN.out (by rw [H1.out];decide) hok2 (by simp) HST3.out.qi)
  have HX:Hid (StAt (st6 w4 g n ⟨0,s.tries,[],noEff⟩ nil3) G B T tEng (stepN e n).1):=Lib.hid (by rw [hse,← HS.out];exact ⟨_,_,_,_,_,_,_,_,hstep.1⟩)
  have HBF:Hid (Below B w (st6 w4 g n ⟨0,s.tries,[],noEff⟩ nil3)):=Lib.hid (HB3B.out.trans (hstep.2.below hBw3 (fun q hq=>by
   rcases hq with rfl | rfl | ⟨i,hi,hb⟩
   · exact hBg
   · exact hBG
   · exact (HST.out.kv.kvs.lt hi hb).1)))
  refine bodyPost_ret (v:=.tuple #[]) ?_ rfl ⟨rfl,HX.out,HBF.out⟩
  simp [results,Tryz.results160]
end Go.Proofs.YtaaffpolmecicabGreat
/- The contract of the program's steppingEngine.try. -/
namespace Go.Proofs.YtaaffpolmecicabGreat
open Go.RowKit
set_option linter.unusedVariables false
set_option linter.unusedSimpArgs false
structure TryAt (w wr:World) (H0 H1 B2:Nat) (tr:Int) (S:List Ent) (V:List Ver) (n:Nat) (ks:List Int) (k:Nat):Prop where
 arr:Arr wr H1 103 (rdnM S V n (ks.take k).reverse)
 row:∃ v,SxAt wr H0 (.int .i64 1) (.int .i64 tr) v (.bool false) (.slice none 0 0) (.slice none 0 0)∧wr.ownsRow B2 3 1 v k (((ks.take k).map fun key=>(readL S V key n).2).map (Value.int .i64))
 frm:Frm (fun b=>b=H0∨b=H1) w wr
theorem Arr.after' {w:World} {g Z k:Nat} {T:TypeId} {A:List Int} (h:Arr w g T A) (hne:Z≠g) (v:Value):Arr (w.setCell ⟨Z,k,none⟩ v) g T A:=(Below.heap_setCell _ _ _ _ (Ne.symm hne)).trans h
theorem take_next {l:List Int} {k:Nat} (h:k < l.length):l.take (k+1)=l.take k++[l.getD k 0]:=by
 rw [List.take_succ_eq_append_getElem h,List.getD_eq_getElem?_getD,List.getElem?_eq_getElem h];rfl
theorem TryAt.next {w2 wr w5 w7:World} {H0 H1 kk n k:Nat} {tr rv rw':Int} {S:List Ent} {V:List Ver} {ks:List Int} {v v':Value} {eI:TypeId} (harr:Arr wr H1 103 (rdnM S V n (ks.take k).reverse)) (hfr:Frm (fun b=>b=H0∨b=H1) w2 wr)
  (hx:SxAt wr H0 (.int .i64 1) (.int .i64 tr) v (.bool false) (.slice none 0 0) (.slice none 0 0)) (ho:wr.ownsRow w2.heap.size 3 1 v k (((ks.take k).map fun key=>(readL S V key n).2).map (Value.int .i64))) (hk:k < ks.length) (hkey:ks.getD k 0=(kk:Int)) (hr:readL S V (kk:Int) n=(rv,rw')) (hne:H0≠H1) (h0:H0 < w2.heap.size) (h1:H1 < w2.heap.size) (hb5:Below wr.heap.size wr w5)
  (ho7:w7.ownsRow w2.heap.size 3 1 v' (k+1) (((ks.take k).map fun key=>(readL S V key n).2).map (Value.int .i64)++[.int .i64 rw'])) (hg:((w5.setCell ⟨H1,kk,none⟩ (.int .i64 rv)).alloc (.cells #[.int .i64 rw'] eI)).grownBy w7 v.ownBlock) :
  TryAt w2 (w7.setCell ⟨H0,2,none⟩ v') H0 H1 w2.heap.size tr S V n ks (k+1):=by
 have hvb:∀ q,v.ownBlock=some q→w2.heap.size≤q:=fun q hq=>(ho.lt q hq).1
 have hsz:=hfr.size
 have hf6:Frm (fun b=>b=H0∨b=H1) w2 ((w5.setCell ⟨H1,kk,none⟩ (.int .i64 rv)).alloc (.cells #[.int .i64 rw'] eI)):=((hfr.then hb5).setCell (g:=H1) (.inr rfl) _ _).alloc _
 have hf7:Frm (fun b=>b=H0∨b=H1) w2 w7:=hf6.trans (Frm.ofGrown (Q:=fun b=>w2.heap.size≤b) hg hvb) fun i hi hh=>absurd hh (by omega)
 have hne0:some H0≠v.ownBlock:=fun e=>by have:=hvb H0 e.symm;omega
 have hne1:some H1≠v.ownBlock:=fun e=>by have:=hvb H1 e.symm;omega
 have hA5:=harr.after hb5
 have hA6:=(hA5.set kk rv).alloc (.cells #[.int .i64 rw'] eI)
 have hA7:=hA6.grown hg hne1
 have hX5:=hx.below hb5
 have hX6:SxAt (w5.setCell ⟨H1,kk,none⟩ (.int .i64 rv)) H0 (.int .i64 1) (.int .i64 tr) v (.bool false) (.slice none 0 0) (.slice none 0 0):=hX5.keep (Below.heap_setCell _ _ _ _ hne)
 have hX6':=hX6.below ((Below.refl _ _).alloc (Nat.le_refl _) (.cells #[.int .i64 rw'] eI))
 have hX7:=hX6'.keep (hg.block H0 hX6'.lt hne0)
 have e1:(ks.take (k+1)).reverse=(kk:Int) :: (ks.take k).reverse:=by rw [take_next hk,hkey,List.reverse_append];rfl
 refine ⟨?_,⟨v',hX7.set2 v',?_⟩,hf7.setCell (g:=H0) (.inl rfl) _ _⟩
 · rw [e1]
   show Arr _ _ _ ((rdnM S V n (ks.take k).reverse).set (kk:Int).toNat (readL S V (kk:Int) n).1)
   rw [hr]
   exact hA7.after' hne v'
 · rw [take_next hk,hkey,List.map_append,List.map_append]
   simp only [List.map_cons,List.map_nil]
   rw [hr]
   exact owns_keep ho7 fun q hq=>Below.heap_setCell _ _ _ _ (fun e=>by
    rw [owns_blk ho7] at hq
    have:=(ho7.lt q hq).1
    have e':q=H0:=e
    omega)
theorem cell_othT {W:World} {G o:Nat} {x:Value} (h:W.cell? ⟨G,o,none⟩=some x) {Z:Nat} (hne:G=Z→False) (k:Nat) (v:Value):(W.setCell ⟨Z,k,none⟩ v).cell? ⟨G,o,none⟩=some x:=(World.cell?_of_block (a:=⟨G,o,none⟩) (Below.heap_setCell _ _ _ _ hne)).trans h
theorem try_keep6 {W:World} {H0 G Z n6:Nat} {x u0 u1 u2 u3 u4 u5:Value} (hne:(G=Z→False)∧(H0=Z→False)) (a b c d e f:Value) (h:W.cell? ⟨G,65,none⟩=some x∧W.cell? ⟨H0,0,none⟩=some u0∧W.cell? ⟨H0,1,none⟩=some u1∧W.cell? ⟨H0,2,none⟩=some u2∧W.cell? ⟨H0,3,none⟩=some u3∧W.cell? ⟨H0,4,none⟩=some u4∧W.cell? ⟨H0,5,none⟩=some u5) :
  ((((((W.setCell ⟨Z,n6,none⟩ a).setCell ⟨Z,n6+1,none⟩ b).setCell ⟨Z,n6+2,none⟩ c).setCell ⟨Z,n6+3,none⟩ d).setCell ⟨Z,n6+4,none⟩ e).setCell ⟨Z,n6+5,none⟩ f).cell? ⟨G,65,none⟩=some x∧((((((W.setCell ⟨Z,n6,none⟩ a).setCell ⟨Z,n6+1,none⟩ b).setCell ⟨Z,n6+2,none⟩ c).setCell ⟨Z,n6+3,none⟩ d).setCell ⟨Z,n6+4,none⟩ e).setCell ⟨Z,n6+5,none⟩ f).cell? ⟨H0,0,none⟩=some u0∧((((((W.setCell ⟨Z,n6,none⟩ a).setCell ⟨Z,n6+1,none⟩ b).setCell ⟨Z,n6+2,none⟩ c).setCell ⟨Z,n6+3,none⟩ d).setCell ⟨Z,n6+4,none⟩ e).setCell ⟨Z,n6+5,none⟩ f).cell? ⟨H0,1,none⟩=some u1∧((((((W.setCell ⟨Z,n6,none⟩ a).setCell ⟨Z,n6+1,none⟩ b).setCell ⟨Z,n6+2,none⟩ c).setCell ⟨Z,n6+3,none⟩ d).setCell ⟨Z,n6+4,none⟩ e).setCell ⟨Z,n6+5,none⟩ f).cell? ⟨H0,2,none⟩=some u2∧((((((W.setCell ⟨Z,n6,none⟩ a).setCell ⟨Z,n6+1,none⟩ b).setCell ⟨Z,n6+2,none⟩ c).setCell ⟨Z,n6+3,none⟩ d).setCell ⟨Z,n6+4,none⟩ e).setCell ⟨Z,n6+5,none⟩ f).cell? ⟨H0,3,none⟩=some u3∧((((((W.setCell ⟨Z,n6,none⟩ a).setCell ⟨Z,n6+1,none⟩ b).setCell ⟨Z,n6+2,none⟩ c).setCell ⟨Z,n6+3,none⟩ d).setCell ⟨Z,n6+4,none⟩ e).setCell ⟨Z,n6+5,none⟩ f).cell? ⟨H0,4,none⟩=some u4∧((((((W.setCell ⟨Z,n6,none⟩ a).setCell ⟨Z,n6+1,none⟩ b).setCell ⟨Z,n6+2,none⟩ c).setCell ⟨Z,n6+3,none⟩ d).setCell ⟨Z,n6+4,none⟩ e).setCell ⟨Z,n6+5,none⟩ f).cell? ⟨H0,5,none⟩=some u5:=by
 have k:∀ (g o:Nat) (x:Value),(g=Z→False)→W.cell? ⟨g,o,none⟩=some x→((((((W.setCell ⟨Z,n6,none⟩ a).setCell ⟨Z,n6+1,none⟩ b).setCell ⟨Z,n6+2,none⟩ c).setCell ⟨Z,n6+3,none⟩ d).setCell ⟨Z,n6+4,none⟩ e).setCell ⟨Z,n6+5,none⟩ f).cell? ⟨g,o,none⟩=some x:=fun g o x hg hx=>cell_othT (cell_othT (cell_othT (cell_othT (cell_othT (cell_othT hx hg _ _) hg _ _) hg _ _) hg _ _) hg _ _) hg _ _
 exact ⟨k _ _ _ hne.1 h.1,k _ _ _ hne.2 h.2.1,k _ _ _ hne.2 h.2.2.1,k _ _ _ hne.2 h.2.2.2.1,k _ _ _ hne.2 h.2.2.2.2.1,k _ _ _ hne.2 h.2.2.2.2.2.1,k _ _ _ hne.2 h.2.2.2.2.2.2⟩
theorem keep_drew7 {W:World} {a1 a2 a3 a4 a5 a6 a7:Addr} {x1 x2 x3 x4 x5 x6 x7:Option Value} (h:W.cell? a1=x1∧W.cell? a2=x2∧W.cell? a3=x3∧W.cell? a4=x4∧W.cell? a5=x5∧W.cell? a6=x6∧W.cell? a7=x7):W.drew.cell? a1=x1∧W.drew.cell? a2=x2∧W.drew.cell? a3=x3∧W.drew.cell? a4=x4∧W.drew.cell? a5=x5∧W.drew.cell? a6=x6∧W.drew.cell? a7=x7:=h
theorem kvo_c65 {w:World} {B G:Nat} {T e0:TypeId} {S:List Ent} {xL xS qv:Value} {vs:List Value} {F:Nat→List Ver} (h:KVo w B G T e0 (valC (arrOf S)++[xL]) [xS,qv] vs F):w.cell? ⟨G,65,none⟩=some xS:=by
 have:=h.kvs.len
 rw [h.arr.cell 65 (by simp [valC_len,arrOf_len,this])]
 rw [List.getD_eq_getElem?_getD,List.getElem?_append_right (by simp [valC_len,arrOf_len,this])]
 simp [valC_len,arrOf_len,this]
theorem own_cells6 {w:World} {B m c g:Nat} {eS:TypeId} {L:List Slt} {ts:List (Value × Value × Value)} (h:w.ownsRow B eS 6 (.slice (some ⟨g,0,none⟩) m c) L.length (slsCs L ts)) (htl:ts.length=L.length) {n:Nat} (hn:n < L.length) :
  (w.cell? ⟨g,n*6,none⟩=some (.int .i64 (L.getD n noSlt).stage)∧w.cell? ⟨g,n*6+1,none⟩=some (.int .i64 (L.getD n noSlt).tries)∧w.cell? ⟨g,n*6+2,none⟩=some (ts.getD n (undef,undef,undef)).1∧w.cell? ⟨g,n*6+3,none⟩=some (.bool (L.getD n noSlt).res.done)∧w.cell? ⟨g,n*6+4,none⟩=some (ts.getD n (undef,undef,undef)).2.1∧w.cell? ⟨g,n*6+5,none⟩=some (ts.getD n (undef,undef,undef)).2.2) ∧
  w.frozen? ⟨g,n*6,none⟩=false∧w.frozen? ⟨g,n*6+1,none⟩=false∧w.frozen? ⟨g,n*6+2,none⟩=false∧w.frozen? ⟨g,n*6+3,none⟩=false∧w.frozen? ⟨g,n*6+4,none⟩=false∧w.frozen? ⟨g,n*6+5,none⟩=false:=by
 obtain rfl:m=L.length:=by
  rcases slice_of_owns h with ⟨h1,-⟩ | ⟨g',cap,h1,-⟩
  · simp at h1
  · simp only [Value.slice.injEq] at h1;exact h1.2.1
 have hc:∀ j,j < 6→w.cell? ⟨g,n*6+j,none⟩=(slCs (L.getD n noSlt) (ts.getD n (undef,undef,undef)))[j]?:=fun j hj=>by
  rw [← slsCs_get htl hn hj]
  exact World.ownsRow.cellAt h (n*6+j) (by omega)
 have hf:=fun j=>World.ownsRow.frozenAt h j
 exact ⟨⟨hc 0 (by omega),hc 1 (by omega),hc 2 (by omega),hc 3 (by omega),hc 4 (by omega),hc 5 (by omega)⟩,hf _,hf _,hf _,hf _,hf _,hf _⟩
theorem try_keep3 {W:World} {H1 G bL Z o1 o2 o3 o4:Nat} {A:List Value} {x u0 u1 u2 u3:Value} (hne:(H1=Z→False)∧(G=Z→False)∧(bL=Z→False)) (a b c:Value) (h:W.rangeAt H1 0 A∧W.cell? ⟨G,32,none⟩=some x∧W.cell? ⟨bL,o1,none⟩=some u0∧W.cell? ⟨bL,o2,none⟩=some u1∧W.cell? ⟨bL,o3,none⟩=some u2∧W.cell? ⟨bL,o4,none⟩=some u3) :
  (((W.setCell ⟨Z,3,none⟩ a).setCell ⟨Z,4,none⟩ b).setCell ⟨Z,5,none⟩ c).rangeAt H1 0 A∧(((W.setCell ⟨Z,3,none⟩ a).setCell ⟨Z,4,none⟩ b).setCell ⟨Z,5,none⟩ c).cell? ⟨G,32,none⟩=some x∧(((W.setCell ⟨Z,3,none⟩ a).setCell ⟨Z,4,none⟩ b).setCell ⟨Z,5,none⟩ c).cell? ⟨bL,o1,none⟩=some u0∧(((W.setCell ⟨Z,3,none⟩ a).setCell ⟨Z,4,none⟩ b).setCell ⟨Z,5,none⟩ c).cell? ⟨bL,o2,none⟩=some u1∧(((W.setCell ⟨Z,3,none⟩ a).setCell ⟨Z,4,none⟩ b).setCell ⟨Z,5,none⟩ c).cell? ⟨bL,o3,none⟩=some u2∧(((W.setCell ⟨Z,3,none⟩ a).setCell ⟨Z,4,none⟩ b).setCell ⟨Z,5,none⟩ c).cell? ⟨bL,o4,none⟩=some u3:=by
 have k:∀ (g o:Nat) (x:Value),(g=Z→False)→W.cell? ⟨g,o,none⟩=some x→(((W.setCell ⟨Z,3,none⟩ a).setCell ⟨Z,4,none⟩ b).setCell ⟨Z,5,none⟩ c).cell? ⟨g,o,none⟩=some x:=fun g o x hg hx=>cell_othT (cell_othT (cell_othT hx hg _ _) hg _ _) hg _ _
 exact ⟨fun j v hv=>k _ _ _ hne.1 (h.1 j v hv),k _ _ _ hne.2.1 h.2.1,k _ _ _ hne.2.2 h.2.2.1,k _ _ _ hne.2.2 h.2.2.2.1,k _ _ _ hne.2.2 h.2.2.2.2.1,k _ _ _ hne.2.2 h.2.2.2.2.2⟩
set_option maxRecDepth 100000 in
set_option maxHeartbeats 8000000 in
theorem stTry_impl (G B n:Nat) (T:TypeId) (e:Eng) (w:World) (h:StAt w G B T tEng e) (hok:EngOk e) (hn:n < e.slots.length) (h0:stg e n=0) (ht:(e.slots.getD n noSlt).tries≠1000) (hBG:B≤G) :
  Calls Tryz.prog 159 #[.pointer (some ⟨G,0,none⟩),.int .i64 (n:Int)] w (StepT G B T (stepN e n).1 w):=by
 obtain ⟨xL,xS,xQ,qv,ts,vs,Q,d,hst⟩:=h
 have HST:=Lib.hid hst
 have HOK:=Lib.hid hok
 have HN:=Lib.hid hn
 have HH00:=Lib.hid h0
 have HT:=Lib.hid ht
 have hten:=hok.ten
 have hll:=hok.len
 have hact:=hok.act hn
 obtain ⟨aS,nS,cS,hxS,hrS,-⟩:=hst.slots
 obtain ⟨aL,nL,cL,hxL,hrL,-⟩:=hst.rowL
 subst hxS hxL
 obtain rfl:e.slots.length=nS:=hrS.1
 obtain rfl:e.list.length=nL:=hrL.1
 obtain ⟨gS,oS,haS,hsl⟩:=hrS.at n hn
 obtain ⟨g,rfl,-⟩:∃ g,aS=some ⟨g,0,none⟩∧True:=by
  rcases slice_of_owns hst.rowS with ⟨hq,-⟩ | ⟨g,cap,hq,-⟩
  · simp only [Value.slice.injEq] at hq;rw [hq.1] at haS;cases haS
  · simp only [Value.slice.injEq] at hq;exact ⟨g,hq.1,trivial⟩
 simp only [Option.some.injEq,Addr.mk.injEq,and_true] at haS
 obtain ⟨rfl,rfl⟩:=haS
 obtain ⟨bL,oL,rfl,hac⟩:=hrL.2.2.1 (by omega)
 obtain ⟨d0,d1,d2,d3⟩:=hac n (by omega)
 rw [Nat.zero_add] at hsl
 have s1:=hsl.tries
 have htr:=slot_new (hok.slot n hn) h0
 obtain ⟨X,hX⟩:∃ X,X=e.list.getD n noA:=⟨_,rfl⟩
 rw [← hX] at d0 d1 d2 d3 hact
 have HX:=Lib.hid hX
 have HACT:=Lib.hid hact
 obtain ⟨tr,htrv⟩:∃ x,x=(e.slots.getD n noSlt).tries:=⟨_,rfl⟩
 rw [← htrv] at s1 htr ht
 have HTR:=Lib.hid htrv
 have HNEW:=Lib.hid htr.1
 obtain ⟨kd,sr,ds,am⟩:=X
 simp only at d0 d1 d2 d3
 have c65:=hst.c65
 have c32:=hst.c32
 have hgl:g < w.heap.size:=World.block_lt_of_cell? w ⟨g,n*6+1,none⟩ s1
 have hbl:bL < w.heap.size:=World.block_lt_of_cell? w ⟨bL,oL+n*4,none⟩ d0
 have hGl:=hst.lt
 obtain ⟨L,hL⟩:∃ L,L=e.slots.length:=⟨_,rfl⟩
 rw [← hll,← hL] at c32
 rw [← hL] at c65 hn hten
 have HL:=Lib.hid hL
 have i1:(0:Int)≤(n:Int):=by omega
 have i2:(n:Int) < (L:Int):=by omega
 have etr:IntKind.i64.wrap (tr+1)=tr+1:=IntWalk.i64_in _ (by omega)
 have HKP:=Lib.hid (fun W' (hb:Below w.heap.size w W')=>(⟨⟨(hst.below hb).vals,below_cz hb hGl c32,below_cz hb hGl c65⟩,below_cz hb hbl d0,below_cz hb hbl d1,below_cz hb hbl d2,below_cz hb hbl d3⟩:(_∧_∧_)∧_∧_∧_∧_))
 have HGL:=Lib.hid hGl
 clear hst hok hrS hrL hac hsl hll hX htrv hact h0 ht htr hgl hbl hL
 go_enter Tryz.func159,Tryz.ntmps159
 go_upto_region 2 with (fail)
 generalize hw1:World.alloc (World.alloc _ _) _=w1
 have hb1:Below w.heap.size w w1:=by rw [← hw1];exact ((Below.refl _ _).alloc (Nat.le_refl _) _).alloc (by simp) _
 have hA1:Arr w1 (w.heap.size+1) 103 zeros:=by
  rw [← hw1]
  have:=Arr.new (w.alloc (.cells #[.int .i64 1,.int .i64 (tr+1),.slice none 0 0,.bool false,.slice none 0 0,.slice none 0 0] 75)) 103 zeros
  rw [World.size_alloc] at this
  exact this
 have hX1:SxAt w1 w.heap.size (.int .i64 1) (.int .i64 (tr+1)) (.slice none 0 0) (.bool false) (.slice none 0 0) (.slice none 0 0):=by
  rw [← hw1]
  exact (sxAt_new w 75 _ _ _ _ _ _).below ((Below.refl _ _).alloc (Nat.le_refl _) _)
 have hz1:w1.heap.size=w.heap.size+2:=by rw [← hw1];simp
 clear hw1
 obtain ⟨⟨-,c32,-⟩,d0,d1,d2,d3⟩:=HKP.out w1 hb1
 have HB1:=Lib.hid hb1
 go_wp2_with fail
 refine (actionReads_impl kd sr ds am _).mono ?_;rintro e1 w2 ⟨v2,rfl,ho2,hw2,hb2⟩
 have hkl:=readsM_len ⟨kd,sr,ds,am⟩
 have HKB:=Lib.hid (readsM_bd ⟨kd,sr,ds,am⟩)
 obtain ⟨ks,hks⟩:∃ x,x=readsM ⟨kd,sr,ds,am⟩:=⟨_,rfl⟩
 rw [← hks] at ho2 hw2 hkl HKB
 have HKS:=Lib.hid hks
 obtain ⟨aK,cK,rfl,hrK⟩:=rowI_of_owns ho2 (by unfold maxLen;omega) hw2
 have HRK:=Lib.hid hrK
 have HB2:=Lib.hid (HB1.out.trans (hb2.mono HB1.out.size))
 have HS12:Hid (w1.heap.size≤w2.heap.size∧w1.heap.size=w.heap.size+2):=Lib.hid ⟨hb2.size,hz1⟩
 have HT0:Hid (TryAt w2 w2 w.heap.size (w.heap.size+1) w2.heap.size (tr+1) e.base e.vers n ks 0):=Lib.hid
  ⟨by rw [List.take_zero];show Arr w2 _ _ (arrOf []);rw [arrOf_nil'];exact hA1.after hb2,⟨.slice none 0 0,hX1.below hb2,by rw [List.take_zero];exact World.ownsRow_nil _ _ _ _⟩,Frm.refl _ _⟩
 have HKO:Hid (∀ b o,aK=some ⟨b,o,none⟩→0 < ks.length→w.heap.size+2≤b):=Lib.hid (fun b o h hk=>by
  have h3:=(ho2.lt b (by rw [h];rfl)).1
  omega)
 obtain ⟨m,hm⟩:∃ m,m=ks.length:=⟨_,rfl⟩
 rw [← hm] at hkl HRK
 have HM:=Lib.hid hm
 obtain ⟨H0,hH0⟩:∃ x,x=w.heap.size:=⟨_,rfl⟩
 obtain ⟨H1,hH1⟩:∃ x,x=H0+1:=⟨_,rfl⟩
 rw [← hH0] at HT0 HS12 HKO ⊢
 rw [← hH1] at HT0 ⊢
 have HH0:=Lib.hid hH0
 have HH1:=Lib.hid hH1
 rw [← hm]
 clear hb1 hA1 hX1 hz1 c32 d0 d1 d2 d3 hw2 ho2 hb2 hrK hks hm hH0 hH1 HB1
 go_wp2_with fail
 go_loopw [29] (fun i wr=>∃ k:Nat,k≤m∧i = .int .i64 k∧TryAt w2 wr H0 H1 w2.heap.size (tr+1) e.base e.vers n ks k) (fun i _=>m - (intOf i).toNat)
 case atStart=>exact ⟨0,Nat.zero_le _,rfl,HT0.out⟩
 case round =>
  obtain ⟨k,hk,rfl,hta⟩:=hrel
  have HTA:=Lib.hid hta
  by_cases hlt:k < m
  · have hbw:Below w.heap.size w wr:=HB2.out.trans (hta.frm.below HB2.out.size (fun q hq=>by have:=HH0.out;have:=HH1.out;omega))
    obtain ⟨harr,⟨v,hx,ho⟩,hfr⟩:=hta
    obtain ⟨pv,nv,cv,rfl⟩:=slice_form ho
    obtain ⟨bK,oK,rfl,hck⟩:=HRK.out.2.2.1 (by omega)
    have hbK:=HKO.out bK oK rfl (by rw [← HM.out];omega)
    have hKl:bK < w2.heap.size:=World.block_lt_of_cell? w2 ⟨bK,oK+k,none⟩ (hck k hlt)
    have hcc:=(World.cell?_of_block (a:=⟨bK,oK+k,none⟩) (hfr.block bK hKl (by have:=HH1.out;omega))).trans (hck k hlt)
    have hmem:=HKB.out _ (getD_mem ks k (by rw [← HM.out];exact hlt))
    obtain ⟨key,hkey⟩:∃ x,x=ks.getD k 0:=⟨_,rfl⟩
    rw [← hkey] at hcc hmem
    obtain ⟨kk,rfl⟩:∃ kk:Nat,key=(kk:Int):=⟨key.toNat,by omega⟩
    have hkk:kk < 32:=by omega
    have HKEY:=Lib.hid hkey
    have HRD:=Lib.hid (fun (W:World) (hb:Below w.heap.size w W)=>keyRead_o G B 33 T 73 _ _ vs (arrOf e.base) kk (n:Int) e.base e.vers W (HST.out.below hb).kv (pre33 _ _) (arrOf_len _) hkk (arrOf_get _ _ hkk) HOK.out.vok)
    rw [← valC_cells] at HRD
    obtain ⟨rp,hrp⟩:∃ x,x=readL e.base e.vers (kk:Int) (n:Int):=⟨_,rfl⟩
    rw [← hrp] at HRD
    obtain ⟨rv,rw'⟩:=rp
    have HRP:=Lib.hid hrp.symm
    have HKPW:=Lib.hid (fun W' (hb:Below wr.heap.size wr W')=>(HKP.out W' (hbw.trans (hb.mono hbw.size))).1.1)
    have HBW:=Lib.hid hbw
    have HX:=Lib.hid hx
    have HA:=Lib.hid harr
    have HO:=Lib.hid ho
    have HF:=Lib.hid hfr
    have hu : Tryz.prog.underlying 103 = some (.array 32 3):=Tryz.underlying103
    have hi:(Tryz.prog.info? 103).map (·.size)=some (valC (arrOf e.base)).length:=by rw [valC_len,arrOf_len];exact infoArr
    have j1:(0:Int)≤(k:Int):=by omega
    have j2:(k:Int) < (m:Int):=by omega
    clear hrp hkey hck hbw hx harr ho hfr hKl hbK hmem
    go_upto_region 5 with (fail)
    go_region_held3 (fun w'=>w'.rangeAt G 0 (valC (arrOf e.base)))
     (first | (with_reducible exact hkp) | (with_reducible exact HKPW.out _ (Below.refl _ _).drew))
     (first | (go_at_call 82;(with_reducible refine (HRD.out wr.drew (HBW.out.drew)).mono ?_);rintro e1 w5 ⟨rfl,hb5'⟩;have hb5:Below wr.heap.size wr w5:=(Below.refl _ _).drew.trans hb5';have hkp:=HKPW.out _ hb5))
    have HB5:=Lib.hid hb5
    have hc5:=(HA.out.after hb5).cell kk (by rw [rdn_len];exact hkk)
    have hf5:=(HA.out.after hb5).frozen kk
    have q1:(0:Int)≤(kk:Int):=by omega
    have q2:(kk:Int) < 32:=by omega
    clear hb5 hb5' hkp hi hu hcc
    go_upto_region 7 with (fail)
    have hne:H0≠H1:=by have:=HH1.out;omega
    have hH2:H0 < w2.heap.size∧H1 < w2.heap.size:=by have:=HS12.out;have:=HH1.out;omega
    have hX6:SxAt (w5.setCell ⟨H1,kk,none⟩ (.int .i64 rv)) H0 (.int .i64 1) (.int .i64 (tr+1)) (.slice pv nv cv) (.bool false) (.slice none 0 0) (.slice none 0 0):=(HX.out.below HB5.out).keep (Below.heap_setCell _ _ _ _ hne)
    have hO6:(w5.setCell ⟨H1,kk,none⟩ (.int .i64 rv)).ownsRow w2.heap.size 3 1 (.slice pv nv cv) k (((ks.take k).map fun key=>(readL e.base e.vers key n).2).map (Value.int .i64)):=owns_keep (owns_below HO.out HB5.out) fun q hq=>Below.heap_setCell _ _ _ _ (fun e1=>by
     rw [owns_blk HO.out] at hq
     have:=(HO.out.lt q hq).1
     have e2:q=H1:=e1
     omega)
    have HNX:=Lib.hid (fun (v':Value) (w7:World) ho7 hg=>TryAt.next (v':=v') (w7:=w7) (eI:=3) HA.out HF.out HX.out HO.out (by rw [← HM.out];exact hlt) HKEY.out.symm HRP.out hne hH2.1 hH2.2 HB5.out ho7 hg)
    have hB6:w2.heap.size≤(w5.setCell ⟨H1,kk,none⟩ (.int .i64 rv)).heap.size:=by
     have:=HF.out.size;have:=HB5.out.size;simp [World.setCell];omega
    have HX6:=Lib.hid hX6
    have HVB:Hid (∀ q,(Value.slice pv nv cv).ownBlock=some q→w2.heap.size≤q):=Lib.hid (fun q hq=>(HO.out.lt q hq).1)
    have HH02:=Lib.hid hH2.1
    have xx2:=hX6.c2
    obtain ⟨w6,hw6⟩:∃ x,x=w5.setCell ⟨H1,kk,none⟩ (.int .i64 rv):=⟨_,rfl⟩
    rw [← hw6] at hO6 HNX hB6 HX6 xx2 ⊢
    clear hw6 hX6 hne hH2 HX HA HO HF HRD HKPW hc5 hf5 HTA HT0
    go_wp2_with (first | (at_builtin;refine wpList_append_lit (W:=w6) rfl _ _ 65 rfl w2.heap.size 3 3 (.int .i64 0) 1 8 1 Tryz.underlying65 infoInt rfl (by decide) (.slice pv nv cv) k _ [.int .i64 rw'] (by rfl) hO6 (by simp [Act.eval]) rfl (by intro u hu;simp at hu;rw [hu];rfl) (by decide) (by omega) (by decide) hB6 ?_;intro v' w7 ho7 hnn7 hg7 hloc7;obtain ⟨p7,n7,c7,rfl⟩:=slice_form ho7;have hx7:=(HX6.out.below ((Below.refl _ _).alloc (Nat.le_refl _) (.cells #[.int .i64 rw'] 3))).keep (hg7.block H0 (HX6.out.below ((Below.refl _ _).alloc (Nat.le_refl _) (.cells #[.int .i64 rw'] 3))).lt (fun e1=>by have:=HVB.out H0 e1.symm;have:=HH02.out;omega));have xx7:=hx7.c2;have xf7:=hx7.f2))
    have HN:=Lib.hid (HNX.out _ w7 ho7 hg7)
    generalize hw8:World.setCell _ _ _=w8 at HN ⊢
    clear hw8 hx7 xx7 xf7 ho7 hnn7 hg7 hloc7 HNX HX6 HVB hO6 xx2
    go_roundw
    case rel=>exact ⟨k+1,by omega,by go_num,HN.out⟩
    case measure=>simp [intOf];omega
  · obtain rfl:k=m:=by omega
    clear hlt hk hta HT0
    obtain ⟨harr,⟨v,hx,ho⟩,hfr⟩:=HTA.out
    obtain ⟨pv,nv,cv,rfl⟩:=slice_form ho
    rw [show ks.take k=ks from by rw [List.take_of_length_le];exact Nat.le_of_eq HM.out.symm] at harr ho
    have hbw:Below w.heap.size w wr:=HB2.out.trans (hfr.below HB2.out.size (fun q hq=>by have:=HH0.out;have:=HH1.out;omega))
    have htry:=try_rdn (n:=n) HOK.out.base HOK.out.vok HACT.out ks.reverse (fun q=>by rw [List.mem_reverse,HKS.out])
    obtain ⟨AA,hAA⟩:∃ x,x=rdnM e.base e.vers n ks.reverse:=⟨_,rfl⟩
    rw [← hAA] at htry harr
    have hal:AA.length=32:=by rw [hAA];exact rdn_len _ _ _ _
    have hAR:wr.rangeAt H1 0 (valC AA):=fun j v hv=>by
     have hj:j < AA.length:=by have:=(List.getElem?_eq_some_iff.1 hv).1;rwa [valC_len] at this
     rw [Nat.zero_add,harr.cell j hj]
     have:(valC AA)[j]? = some (.int .i64 (AA.getD j 0)):=by
      unfold valC
      rw [List.getElem?_map,List.getD_eq_getElem?_getD,List.getElem?_eq_getElem hj];rfl
     rw [← this];exact hv
    obtain ⟨ES,hES⟩:∃ x,x=entTo AA 32:=⟨_,rfl⟩
    rw [← hES] at htry
    have hesl:ES.length≤32:=by rw [hES];exact entTo_len _ _
    have hESW:WfE ES:=fun x hx=>by
     have:=((storeB_ok ES).1 htry.1).2 x hx
     exact ⟨WalkArith.wf_i64 (by omega),WalkArith.wf_i64 (by omega)⟩
    have HC1:=Lib.hid (fun (W:World)=>entries_impl AA W hal)
    rw [← hES,← valC_cells] at HC1
    have HRA:=Lib.hid (fun (W:World) (a:Option Addr) (c:Nat) (hr:RowE W a ES.length ES)=>runAction_impl a ES.length c ES kd sr ds am W hr)
    rw [htry.2] at HRA
    obtain ⟨ef,hef⟩:∃ x,x=(tryM e.base e.vers ⟨kd,sr,ds,am⟩ n).1:=⟨_,rfl⟩
    rw [← hef] at HRA
    have HEF:=Lib.hid hef
    have HESW:=Lib.hid hESW
    have h1w:H1 < wr.heap.size:=harr.lt
    have HKP2:=Lib.hid (fun W' (hb:Below wr.heap.size wr W')=>(⟨fun j v hv=>below_cz hb h1w (hAR j v hv),(HKP.out W' (hbw.trans (hb.mono hbw.size))).1.2.1,(HKP.out W' (hbw.trans (hb.mono hbw.size))).2⟩:W'.rangeAt H1 0 (valC AA)∧_∧_))
    have HX:=Lib.hid hx
    have HO:=Lib.hid ho
    have HF:=Lib.hid hfr
    have HBW:=Lib.hid hbw
    have HALN:=Lib.hid hal
    have HNE:Hid ((H1=H0→False)∧(G=H0→False)∧(bL=H0→False)):=Lib.hid (by
     have:=HH1.out;have:=HH0.out;have:=HGL.out
     have hb:=World.block_lt_of_cell? w ⟨bL,oL+n*4,none⟩ (HKP.out w (Below.refl _ _)).2.1
     have hb':bL < w.heap.size:=hb
     omega)
    have hu : Tryz.prog.underlying 103 = some (.array 32 3):=Tryz.underlying103
    have hi:(Tryz.prog.info? 103).map (·.size)=some (valC AA).length:=by rw [valC_len,hal];exact infoArr
    clear harr hx ho hfr hbw htry hAA hal hAR hES hESW hef h1w HTA
    go_upto_region 9 with (fail)
    go_region_held3 (fun w'=>w'.rangeAt H1 0 (valC AA)∧w'.cell? ⟨G,32,none⟩=some (.slice (some ⟨bL,oL,none⟩) L cL)∧w'.cell? ⟨bL,oL+n*4,none⟩=some (.int .i64 kd)∧w'.cell? ⟨bL,oL+n*4+1,none⟩=some (.int .i64 sr)∧w'.cell? ⟨bL,oL+n*4+2,none⟩=some (.int .i64 ds)∧w'.cell? ⟨bL,oL+n*4+3,none⟩=some (.int .i64 am))
     (first | (with_reducible exact try_keep3 HNE.out _ _ _ hkp2) | (with_reducible exact hkp2) | (with_reducible exact hkp) | (with_reducible exact HKP2.out _ (Below.refl _ _).drew))
     (first
      | (go_at_call 83;(with_reducible refine (HC1.out wr.drew).mono ?_);rintro e1 w3 ⟨v3,rfl,ho3,hb3'⟩;obtain ⟨p3,k3,rfl,hr3,-⟩:=rowE_of_owns ho3 (by omega) HESW.out;have hb3:Below wr.heap.size wr w3:=(Below.refl _ _).drew.trans hb3';have hkp:=HKP2.out _ hb3)
      | (go_at_call 66;(with_reducible refine (HRA.out w3 p3 k3 hr3).mono ?_);rintro e1 w4 ⟨v4,rfl,hOF,hb4'⟩;obtain ⟨y4,z4,rfl,ho5,ho6,hwx,hwy,hoff⟩:=hOF;obtain ⟨p4,q4,k4,rfl⟩:=slice_form ho5;obtain ⟨p5,q5,k5,rfl⟩:=slice_form ho6;have hb4:Below wr.heap.size wr w4:=hb3.trans (hb4'.mono hb3.size);have hkp2:=HKP2.out _ hb4;obtain ⟨zz0,zz1,zz2,zz3,zz4,zz5,zf0,zf1,zf2,zf3,zf4,zf5⟩:=HX.out.below hb4))
    have hX5:=(HX.out.below hb4).set3 (.bool ef.done) (.slice p4 q4 k4) (.slice p5 q5 k5)
    have hR4:=ownR_slot (w0:=w2) (tI:=3) (s:=⟨1,tr+1,ks.map fun key=>(readL e.base e.vers key n).2,ef⟩) (x:=.slice pv nv cv) (y:=.slice p4 q4 k4) (z:=.slice p5 q5 k5) (by
     have:=owns_below HO.out hb3
     rw [List.length_map,← HM.out];exact this) hb4' ⟨_,_,rfl,ho5,ho6,hwx,hwy,hoff⟩ rfl (Nat.le_trans HF.out.size hb3.size)
    have hs02:H0 < w2.heap.size:=by have:=HS12.out;omega
    have hR5:=hR4.1.turn ((((Turn.refl H0 (H0+1) w4).setCell (g:=H0) ⟨Nat.le_refl _,Nat.lt_succ_self _⟩ 3 (.bool ef.done)).setCell (g:=H0) ⟨Nat.le_refl _,Nat.lt_succ_self _⟩ 4 (.slice p4 q4 k4)).setCell (g:=H0) ⟨Nat.le_refl _,Nat.lt_succ_self _⟩ 5 (.slice p5 q5 k5)) (.inr (.inl hs02))
    have hb5w:Below w.heap.size w (((w4.setCell ⟨H0,3,none⟩ (.bool ef.done)).setCell ⟨H0,4,none⟩ (.slice p4 q4 k4)).setCell ⟨H0,5,none⟩ (.slice p5 q5 k5)):=below_set3 (HBW.out.trans (hb4.mono HBW.out.size)) (Nat.le_of_eq HH0.out.symm) _ _ _ _ _ _
    have hsz5:w4.heap.size=(((w4.setCell ⟨H0,3,none⟩ (.bool ef.done)).setCell ⟨H0,4,none⟩ (.slice p4 q4 k4)).setCell ⟨H0,5,none⟩ (.slice p5 q5 k5)).heap.size:=by simp [World.setCell]
    rw [hsz5] at hR5
    generalize hw5:World.setCell (World.setCell (World.setCell w4 _ _) _ _) _ _=w5 at hX5 hR5 hb5w hsz5 ⊢
    have HX5:=Lib.hid hX5
    have HR5:=Lib.hid hR5
    have HB5:=Lib.hid hb5w
    have HSZ:Hid (w.heap.size≤w2.heap.size∧H0 < w5.heap.size):=Lib.hid ⟨HB2.out.size,hX5.lt⟩
    have hwr:writesB ef.wrs=true:=by
     have htr':=slot_new (HOK.out.slot n HN.out) HH00.out
     have hne:=HT.out
     have hs':=slot_tried (n:=n) HOK.out.base HOK.out.vok HACT.out (t:=(e.slots.getD n noSlt).tries) (by omega) 1 (.inl rfl)
     rw [HEF.out];exact slot_wr HACT.out hs'
    have HWR:=Lib.hid hwr
    have hwl:=wr_len hwr
    clear hw5 hX5 hR4 hR5 hkp hkp2 hb3 hb3' hb4 hb4' ho3 ho5 ho6 hr3 hwx hwy hoff zz0 zz1 zz2 zz3 zz4 zz5 zf0 zf1 zf2 zf3 zf4 zf5 hu hi hsz5 HX HO HF HRA HC1 HKP2
    have hz5:=HR5.out.own ⟨.slice p5 q5 k5,43,2,ef.wrs.length,flatE ef.wrs⟩ (by simp [slRs])
    have hewf:WfE ef.wrs:=fun x hx=>by
     have:=((writesB_ok _).1 hwr).2 x hx
     exact ⟨WalkArith.wf_i64 (by omega),WalkArith.wf_i64 (by omega)⟩
    obtain ⟨a5,c5,hz5e,hr5,-⟩:=rowE_of_owns hz5 (by omega) hewf
    simp only [Value.slice.injEq] at hz5e
    obtain ⟨rfl,rfl,rfl⟩:=hz5e
    have hbl:∀ q,blk (.slice p5 ef.wrs.length k5)=some q→w2.heap.size≤q:=fun q hq=>(HR5.out.ge (r:=⟨.slice p5 ef.wrs.length k5,43,2,ef.wrs.length,flatE ef.wrs⟩) (by simp [slRs]) hq).1
    have hTV:∀ q,w.heap.size≤q→¬ TouchV G vs q:=fun q hq hh=>by
     rcases hh with h | ⟨i,hi,hb⟩
     · have:=HGL.out;omega
     · have:=(HST.out.kv.kvs.lt hi hb).2;omega
    have HTV:=Lib.hid hTV
    have hBw5:B≤w5.heap.size:=by have:=HSZ.out;have:=HGL.out;have:=HH0.out;omega
    have HPW:=Lib.hid (putWrites_o G B 33 T _ _ vs (ofK e.vers) e.vers (n:Int) p5 ef.wrs.length k5 ef.wrs w5.drew ((HST.out.below hb5w).kv.below ((Below.refl _ _).drew)) (pre33 _ _) (kok_ofK HOK.out.vok) (by rw [catK_ofK HOK.out.vok,drop_new HOK.out HN.out HH00.out]) (hr5.below ((Below.refl _ _).drew)) (inB_yes (by omega) (by omega)) hwr hBw5 (fun bb oo _ he=>by
     have h1:=hbl bb (by rw [he];rfl)
     exact HTV.out bb (by have:=HSZ.out;have:=HH0.out;omega)))
    have xx5:=HX5.out.c5
    clear hz5 hewf hr5 hbl hTV hwr hb5w
    go_upto_region 10 with (fail)
    go_region_held3 (fun w'=>w'.cell? ⟨H0,5,none⟩=some (.slice p5 ef.wrs.length k5))
     (first | (with_reducible exact hkp) | (exact xx5))
     (first | (go_at_call 78;(with_reducible refine HPW.out.mono ?_);rintro e1 w6 ⟨rfl,F6,vs6,hk6,hkf6,hcf6,hf6',hn6⟩;have hf6:Frm (TouchV G vs) w5 w6:=(Frm.ofBelow (Q:=TouchV G vs) ((Below.refl w5.heap.size w5).drew)).trans hf6' (fun i hi hh=>hh);have hkp:=(World.cell?_of_block (a:=⟨H0,5,none⟩) (hf6.block H0 HSZ.out.2 (HTV.out H0 (Nat.le_of_eq HH0.out.symm)))).trans xx5))
    have hX6:=HX5.out.keep (hf6.block H0 HSZ.out.2 (HTV.out H0 (Nat.le_of_eq HH0.out.symm)))
    have hGO:¬ TouchV G vs g:=HST.out.off ⟨.slice (some ⟨g,0,none⟩) e.slots.length cS,tEng.tS,6,e.slots.length,slsCs e.slots ts⟩ (by simp [stRs]) g rfl
    have hS6:w6.ownsRow B tEng.tS 6 (.slice (some ⟨g,0,none⟩) e.slots.length cS) e.slots.length (slsCs e.slots ts):=owns_keep (owns_below HST.out.rowS HB5.out) fun q hq=>by
     have e1:q=g:=by simpa [blk] using hq.symm
     rw [e1]
     have hgw:=(HST.out.rowS.lt g rfl).2
     exact hf6.block g (Nat.lt_of_lt_of_le hgw HB5.out.size) hGO
    obtain ⟨⟨u0,u1,u2,u3,u4,u5⟩,fz0,fz1,fz2,fz3,fz4,fz5⟩:=own_cells6 hS6 HST.out.tl HN.out
    have x65:=kvo_c65 hk6
    rw [← HL.out] at x65
    have hsz6:=hf6.size
    have hGw6:G < w6.heap.size:=hk6.lt
    have HK6:=Lib.hid hk6
    have HX6:=Lib.hid hX6
    have HF6:=Lib.hid hf6
    have HN6:=Lib.hid hn6
    have HKF6:=Lib.hid hkf6
    have HCF6:=Lib.hid hcf6
    have hH6:=hX6.lt
    have HNE2:Hid ((G=g→False)∧(H0=g→False)):=Lib.hid ⟨fun e1=>hGO (.inl e1.symm),fun e1=>by
     have hgw:=(HST.out.rowS.lt g rfl).2
     have:=HH0.out;omega⟩
    have HKP4:=Lib.hid (fun W' (hb:Below w6.heap.size w6 W')=>(⟨below_cz hb hGw6 x65,below_cz hb hH6 hX6.c0,below_cz hb hH6 hX6.c1,below_cz hb hH6 hX6.c2,below_cz hb hH6 hX6.c3,below_cz hb hH6 hX6.c4,below_cz hb hH6 hX6.c5⟩ : _∧_∧_∧_∧_∧_∧_))
    clear xx5 hkp hk6 hkf6 hcf6 hf6' hf6 hn6 hX6 hGO hS6 hsz6 x65 HPW hGw6 hH6
    go_upto_region 11 with (fail)
    have hk6:=HKP4.out w6 (Below.refl _ _)
    have hkd:=HKP4.out w6.drew ((Below.refl w6.heap.size w6).drew)
    go_region_held3 (fun w'=>w'.cell? ⟨G,65,none⟩=some (.slice (some ⟨g,0,none⟩) L cS)∧w'.cell? ⟨H0,0,none⟩=some (.int .i64 1)∧w'.cell? ⟨H0,1,none⟩=some (.int .i64 (tr+1))∧w'.cell? ⟨H0,2,none⟩=some (.slice pv nv cv)∧w'.cell? ⟨H0,3,none⟩=some (.bool ef.done)∧w'.cell? ⟨H0,4,none⟩=some (.slice p4 q4 k4)∧w'.cell? ⟨H0,5,none⟩=some (.slice p5 ef.wrs.length k5))
     (first | (with_reducible exact hkd) | (with_reducible exact keep_drew7 (try_keep6 HNE2.out _ _ _ _ _ _ hk6)))
     (fail)
    have hsn:=step_new HH00.out HT.out
    have hok2:=step_ok HOK.out HN.out
    rw [hsn] at hok2
    have e1:(tryM e.base e.vers (e.list.getD n noA) n).1=ef:=by rw [← HX.out];exact HEF.out.symm
    have e2:(tryM e.base e.vers (e.list.getD n noA) n).2=ks.map fun key=>(readL e.base e.vers key n).2:=by rw [← HX.out,HKS.out];rfl
    simp only [e1,e2] at hok2 hsn
    rw [← HTR.out] at hok2 hsn
    have hstep:=HST.out.step HB5.out HN.out (s:=⟨1,tr+1,ks.map fun key=>(readL e.base e.vers key n).2,ef⟩) (tt:=(.slice pv nv cv,.slice p4 q4 k4,.slice p5 ef.wrs.length k5)) (HR5.out.mono HSZ.out.1 (Nat.le_refl _)) (HK6.out.congr (G:=ofK (putL e.vers (n:Int) ef.wrs)) (fun k hk=>by rw [← HCF6.out,ofK_catK HKF6.out hk])) HF6.out HN6.out (by have:=HGL.out;omega) (engWf_ok hok2) (qIs_put HOK.out HN.out (by rw [HH00.out];decide) hok2 (by simp) HST.out.qi)
    have HX1:Hid (StAt (st6 w6 g n ⟨1,tr+1,ks.map fun key=>(readL e.base e.vers key n).2,ef⟩ (.slice pv nv cv,.slice p4 q4 k4,.slice p5 ef.wrs.length k5)).drew G B T tEng (stepN e n).1):=Lib.hid (by
     rw [hsn];exact ⟨_,_,_,_,_,_,_,_,hstep.1.below ((Below.refl _ _).drew)⟩)
    have HBF:Hid (Below B w (st6 w6 g n ⟨1,tr+1,ks.map fun key=>(readL e.base e.vers key n).2,ef⟩ (.slice pv nv cv,.slice p4 q4 k4,.slice p5 ef.wrs.length k5)).drew):=Lib.hid ((hstep.2.below (by have:=HGL.out;omega) (fun q hq=>by
     rcases hq with rfl | rfl | ⟨i,hi,hb⟩
     · exact (HST.out.rowS.lt _ rfl).1
     · exact hBG
     · exact (HST.out.kv.kvs.lt hi hb).1)).drew)
    clear hstep hsn hok2 e1 e2 u0 u1 u2 u3 u4 u5 fz0 fz1 fz2 fz3 fz4 fz5 hkd hk6
    go_wp2_with fail
    refine bodyPost_ret (v:=.tuple #[]) ?_ rfl ⟨rfl,HX1.out,HBF.out⟩
    simp [results,Tryz.results159]
end Go.Proofs.YtaaffpolmecicabGreat
/- The contract of the program's steppingEngine.step. -/
namespace Go.Proofs.YtaaffpolmecicabGreat
open Go.RowKit
set_option linter.unusedVariables false
set_option linter.unusedSimpArgs false
theorem stepL_out {e:Eng} {n:Int} (h:inB n 0 ((e.slots.length:Int) - 1)=false):stepL e n=(e,false):=by unfold stepL;rw [h];rfl
theorem stepL_in {e:Eng} {m:Nat} (h:m < e.slots.length):stepL e (m:Int)=stepN e m:=by
 unfold stepL;rw [inB_yes (by omega) (by omega)];simp
theorem StAt.below {w w':World} {G B:Nat} {T:TypeId} {t:EngT} {e:Eng} (h:StAt w G B T t e) (hb:Below w.heap.size w w'):StAt w' G B T t e:=by
 obtain ⟨_,_,_,_,_,_,_,_,h⟩:=h;exact ⟨_,_,_,_,_,_,_,_,h.below hb⟩
theorem StAt.lt {w:World} {G B:Nat} {T:TypeId} {t:EngT} {e:Eng} (h:StAt w G B T t e):G < w.heap.size:=by
 obtain ⟨_,_,_,_,_,_,_,_,h⟩:=h;exact h.lt
def StepB (G B:Nat) (T:TypeId) (p:Eng × Bool) (w:World) (en:Ending) (w':World):Prop :=
 en = .returned (.bool p.2)∧StAt w' G B T tEng p.1∧Below B w w'
set_option maxRecDepth 100000 in
set_option maxHeartbeats 8000000 in
theorem stStep_impl (G B:Nat) (T:TypeId) (e:Eng) (n:Int) (w:World) (h:StAt w G B T tEng e) (hok:EngOk e) (hBG:B≤G) :
  Calls Tryz.prog 107 #[.pointer (some ⟨G,0,none⟩),.int .i64 n] w (StepB G B T (stepL e n) w):=by
 have HSA:=Lib.hid h
 obtain ⟨xL,xS,xQ,qv,ts,vs,Q,d,hst⟩:=h
 have HST:=Lib.hid hst
 have HOK:=Lib.hid hok
 have hten:=hok.ten
 obtain ⟨aS,nS,cS,hxS,hrS,-⟩:=hst.slots
 subst hxS
 obtain rfl:e.slots.length=nS:=hrS.1
 have HRS:=Lib.hid hrS
 have c65:=hst.c65
 have hGl:=hst.lt
 have HGL:=Lib.hid hGl
 obtain ⟨L,hL⟩:∃ L,L=e.slots.length:=⟨_,rfl⟩
 rw [← hL] at c65 hten HRS
 have HL:=Lib.hid hL
 clear hst hok hrS hL hGl
 go_enter Tryz.func107,Tryz.ntmps107
 by_cases hn0:n < 0
 · have HF:=Lib.hid (stepL_out (e:=e) (n:=n) (by rw [← HL.out];unfold inB;simp;omega))
   have t0:decide (n < 0)=true:=decide_eq_true hn0
   clear hn0
   go_wp2_with fail
   go_ret
   exact ⟨by rw [HF.out];rfl,by rw [HF.out];exact HSA.out,Below.refl _ _⟩
 · have t0:decide (n < 0)=false:=decide_eq_false hn0
   obtain ⟨m,rfl⟩:∃ m:Nat,n=(m:Int):=⟨n.toNat,by omega⟩
   by_cases hn1:L≤m
   · have HF:=Lib.hid (stepL_out (e:=e) (n:=(m:Int)) (by rw [← HL.out];unfold inB;simp;omega))
     have t1:decide ((L:Int)≤(m:Int))=true:=decide_eq_true (by omega)
     have t1':decide (L≤m)=true:=decide_eq_true hn1
     clear hn0 hn1
     go_wp2_with fail
     go_ret
     exact ⟨by rw [HF.out];rfl,by rw [HF.out];exact HSA.out,Below.refl _ _⟩
   · have t1:decide ((L:Int)≤(m:Int))=false:=decide_eq_false (by omega)
     have t1':decide (L≤m)=false:=decide_eq_false hn1
     have HF:=Lib.hid (stepL_in (e:=e) (m:=m) (by rw [← HL.out];omega))
     have HM:Hid (m < e.slots.length):=Lib.hid (by rw [← HL.out];omega)
     obtain ⟨gS,oS,rfl,hsl⟩:=HRS.out.at m (by omega)
     have hstg:stg e m=(e.slots.getD m noSlt).stage:=rfl
     have hslot:=HOK.out.slot m HM.out
     have htr:stg e m=0→0≤(e.slots.getD m noSlt).tries∧(e.slots.getD m noSlt).tries≤1000:=fun h0=>(slot_new hslot h0).2
     have hcs:=stg_cases HOK.out HM.out
     have HBX:=Lib.hid (fun h0 h1=>step_stay HOK.out HM.out h0 h1)
     obtain ⟨s,hs⟩:∃ s,s=e.slots.getD m noSlt:=⟨_,rfl⟩
     rw [← hs] at hsl hstg htr HBX
     have HSE:=Lib.hid hs
     clear hs hslot
     obtain ⟨s0,s1,⟨v2,s2,av,nv,cv,rfl,-,-,-⟩,s3,⟨v4,s4,aw,nw,cw,rfl,-,-,-⟩,v5,s5,ax,nx,cx,rfl,-,-,-⟩:=hsl
     have i1:(0:Int)≤(m:Int):=by omega
     have i2:(m:Int) < (L:Int):=by omega
     go_upto_region 5 with (fail)
     generalize hw1:World.alloc _ _=w1
     have hb1:Below w.heap.size w w1:=by rw [← hw1];exact (Below.refl _ _).alloc (Nat.le_refl _) _
     have p0:w1.cell? ⟨w.heap.size,0,none⟩=some (.int .i64 s.stage):=by rw [← hw1];simp [go_sem]
     have p1:w1.cell? ⟨w.heap.size,1,none⟩=some (.int .i64 s.tries):=by rw [← hw1];simp [go_sem]
     have HS1:=Lib.hid (HST.out.below hb1)
     have HSA1:=Lib.hid (HSA.out.below hb1)
     have HB1:=Lib.hid (hb1.mono (show B≤w.heap.size by have:=HGL.out;omega))
     have HBL:Hid (B≤w1.heap.size):=Lib.hid (by have:=HGL.out;have:=hb1.size;omega)
     clear hw1 hb1 s0 s1 s2 s3 s4 s5 c65 t0 t1 t1' hn0 hn1 HRS
     obtain ⟨st,hst⟩:∃ x,x=s.stage:=⟨_,rfl⟩
     obtain ⟨tr,htrv⟩:∃ x,x=s.tries:=⟨_,rfl⟩
     rw [← hst] at p0 hstg
     rw [← htrv] at p1 htr HBX
     have HSG:=Lib.hid hstg
     rw [hstg] at hcs htr HBX
     have HTR:Hid (tr=(e.slots.getD m noSlt).tries):=Lib.hid (by rw [htrv,HSE.out])
     clear hst htrv hstg
     rcases hcs with rfl | rfl | rfl
     · have htb:=htr rfl
       by_cases h1000:tr=1000
       · have HF2:=Lib.hid (HBX.out (fun _=>h1000) (fun h=>by cases h))
         subst h1000
         clear htr HBX htb
         go_wp2_with fail
         go_ret
         exact ⟨by rw [HF.out,HF2.out];rfl,by rw [HF.out,HF2.out];exact HSA1.out,HB1.out⟩
       · have t2:decide (tr < 1000)=true:=decide_eq_true (by omega)
         have HSN:=Lib.hid (step_new HSG.out (by rw [← HTR.out];exact h1000))
         have HTC:=Lib.hid (stTry_impl G B m T e w1 HSA1.out HOK.out HM.out HSG.out (by rw [← HTR.out];exact h1000) hBG)
         have HS2:Hid ((stepN e m).2=true):=Lib.hid (by rw [HSN.out])
         clear htr HBX htb h1000 HSN
         go_wp2_with (first | (go_at_call 159;refine HTC.out.mono ?_;rintro e1 w2 ⟨rfl,hs2,hb2⟩))
         go_ret
         exact ⟨by rw [HF.out,HS2.out];rfl,by rw [HF.out];exact hs2,HB1.out.trans hb2⟩
     · by_cases hc:m=chkN e
       · have HCC:=Lib.hid (checkFirst_impl G B m T e w1 HSA1.out HOK.out HM.out HSG.out hc hBG)
         obtain ⟨b,cp,hqv,hqc,hbG,hqq⟩:=HS1.out.first (by rw [← hc];exact HM.out)
         subst hqv
         have c66:=HS1.out.c66
         have hml:0 < e.slots.length - chkN e:=by have:=HM.out;omega
         rw [← hc] at hqq
         obtain ⟨q,hq⟩:∃ q,q=e.slots.length - chkN e:=⟨_,rfl⟩
         rw [← hq] at c66 hml hqc
         have i0:(0:Int) < (q:Int):=by omega
         have HS2:Hid ((stepN e m).2=true):=Lib.hid (by
          cases hsm:sameB e m with
          | true=>rw [step_ok1 HOK.out HM.out HSG.out hc hsm]
          | false=>rw [step_bad1 HOK.out HM.out HSG.out hc hsm])
         clear htr HBX hq hbG hc
         go_wp2_with (first | (go_at_call 160;refine HCC.out.mono ?_;rintro e1 w2 ⟨rfl,hs2,hb2⟩))
         go_ret
         exact ⟨by rw [HF.out,HS2.out];rfl,by rw [HF.out];exact hs2,HB1.out.trans hb2⟩
       · have HF2:=Lib.hid (HBX.out (fun h=>by cases h) (fun _=>hc))
         have hlt2:chkN e < e.slots.length:=by
          have:=chkN_iff HOK.out HM.out
          have h2:=HSG.out
          have:=HM.out
          omega
         obtain ⟨b,cp,hqv,hqc,hbG,hqq⟩:=HS1.out.first hlt2
         subst hqv
         have c66:=HS1.out.c66
         obtain ⟨q,hq⟩:∃ q,q=e.slots.length - chkN e:=⟨_,rfl⟩
         rw [← hq] at c66 hqc
         have i0:(0:Int) < (q:Int):=by omega
         obtain ⟨cc,hcc⟩:∃ x,x=chkN e:=⟨_,rfl⟩
         rw [← hcc] at hqq hc
         have t3:((m:Int) == (cc:Int))=false:=by simp;omega
         clear htr HBX hq hbG hc hcc hlt2
         go_wp2_with fail
         go_ret
         exact ⟨by rw [HF.out,HF2.out];rfl,by rw [HF.out,HF2.out];exact HSA1.out,HB1.out⟩
     · have HF2:=Lib.hid (HBX.out (fun h=>by cases h) (fun h=>by cases h))
       clear htr HBX
       go_wp2_with fail
       go_ret
       exact ⟨by rw [HF.out,HF2.out];rfl,by rw [HF.out,HF2.out];exact HSA1.out,HB1.out⟩
end Go.Proofs.YtaaffpolmecicabGreat
/- The contract of the program's steppingOf (gen14/stepof.py). -/
namespace Go.Proofs.YtaaffpolmecicabGreat
open Go.RowKit
set_option linter.unusedVariables false
set_option linter.unusedSimpArgs false
def blKV (v:Value) (b:Nat):Prop:=∃ vs:List Value,v = .agg vs.toArray∧∃ i,i < 32∧(vs.getD i undef).ownBlock=some b
def isKV (B:Nat) (V:List Ver) (w:World) (v:Value):Prop:=∃ (vs:List Value) (F:Nat→List Ver),v = .agg vs.toArray∧KVs w B 73 vs F∧KOk F∧catK F 32=V
theorem isKV_keep {B:Nat} {V:List Ver} (a b:World) (v:Value) (hk:∀ k,blKV v k→b.heap[k]? = a.heap[k]?) (h:isKV B V a v):isKV B V b v:=by
 obtain ⟨vs,F,h1,h2,h3,h4⟩:=h
 exact ⟨vs,F,h1,h2.keep fun k hk1 q hq=>hk q ⟨vs,h1,k,hk1,hq⟩,h3,h4⟩
theorem blKV_lt {w:World} {B:Nat} {e0:TypeId} {vs:List Value} {F:Nat→List Ver} (h:KVs w B e0 vs F):∀ b,blKV (.agg vs.toArray) b→B≤b∧b < w.heap.size:=by
 rintro b ⟨us,h1,i,hi,hb⟩
 have e:vs=us:=by simpa using h1
 subst e
 exact h.lt hi hb
theorem one_cells {w:World} {B:Nat} {e0:TypeId} {A:List Int} {vs:List Value} {F:Nat→List Ver} {p q:Option Addr} {a b c d:Nat} (h:KVs w B e0 vs F):((valC A++[Value.slice p a b]++vs++[Value.slice q c d,Value.slice none 0 0]).toArray).all (·.oneCell')=true:=by
 have h1:=h.one
 have h2:=cellsI_one A
 rw [← valC_cells] at h2
 rw [List.all_toArray] at h1 h2 ⊢
 simp only [List.all_append,h1,h2]
 simp [Value.oneCell']
def StOf (w:World) (T:TypeId) (e:Eng) (en:Ending) (w':World):Prop :=
 ((engB e=false∧en = .returned (.tuple #[.pointer none,.bool false]))∨(engB e=true∧∃ G,en = .returned (.tuple #[.pointer (some ⟨G,0,none⟩),.bool true])∧w.heap.size≤G∧StAt w' G w.heap.size T tEng e))∧Below w.heap.size w w'
set_option maxRecDepth 100000 in
set_option maxHeartbeats 8000000 in
theorem steppingOf_impl (v1 v2 v3 v4:Value) (e:Eng) (w:World) (h:EngRd w v1 v2 v3 v4 e) :
  Calls Tryz.prog 106 #[.agg #[v1,v2,v3,v4]] w (StOf w 132 e):=by
 have hb0:=(Below.refl w.heap.size w).alloc (Nat.le_refl _) (.cells #[v1,v2,v3,v4] 57)
 have hg0:=egAt_new w 57 v1 v2 v3 v4
 have HR1:=Lib.hid (h.below hb0)
 obtain ⟨⟨a1,n1,c1,rfl,hr1,hz1,-⟩,⟨a2,n2,c2,rfl,hr2,hz2,-⟩,⟨a3,n3,c3,rfl,-,-,-⟩,a4,n4,c4,rfl,hr4,hz4,-⟩:=h
 obtain ⟨W1,hW1⟩:∃ W1,W1=w.alloc (.cells #[.slice a1 n1 c1,.slice a2 n2 c2,.slice a3 n3 c3,.slice a4 n4 c4] 57):=⟨_,rfl⟩
 have hzz:w.heap.size < W1.heap.size:=by rw [hW1];simp
 have HW1:=Lib.hid hW1
 rw [← hW1] at hb0 hg0 HR1
 clear hW1
 have HL2:=Lib.hid hr2.1
 have HL4:=Lib.hid hr4.1
 have HKK:=Lib.hid (fun (W':World) (hb:Below W1.heap.size W1 W')=>(⟨hg0.below hb,(hr1.below hb0).below hb,(hr2.below hb0).below hb,(hr4.below hb0).below hb,hb0.trans (hb.mono hb0.size)⟩:EgAt W' w.heap.size (.slice a1 n1 c1) (.slice a2 n2 c2) (.slice a3 n3 c3) (.slice a4 n4 c4)∧RowE W' a1 n1 e.base∧RowA W' a2 n2 e.list∧RowSl W' a4 n4 e.slots∧Below w.heap.size w W'))
 have HZ2:=Lib.hid hz2
 clear hb0 hg0 hr1 hr2 hr4 hz1 hz2 hz4
 go_enter Tryz.func106,Tryz.ntmps106
 go_upto_region 1 with (fail)
 rw [← HW1.out]
 clear HW1
 obtain ⟨⟨g0,g1,g2,g3,-,-,-,-⟩,-⟩:=HKK.out W1 (Below.refl _ _)
 go_wp2_with fail
 refine (engineValid_impl _ _ _ _ e _ HR1.out).mono ?_;rintro e1 w2 ⟨rfl,hb2⟩
 have HB2:=Lib.hid hb2
 have HBW2:=Lib.hid (HKK.out w2 hb2).2.2.2.2
 clear hb2 g0 g1 g2 g3
 cases hv:engB e with
 | false =>
  have HV:=Lib.hid hv
  clear hv
  go_wp2_with fail
  go_ret2
  exact ⟨.inl ⟨HV.out,rfl⟩,HBW2.out⟩
 | true =>
  have HV:=Lib.hid hv
  have HOK:=Lib.hid ((engB_iff e).1 hv)
  have hten:n4≤10:=by rw [← HL4.out];exact HOK.out.ten
  have HN24:Hid (n2=n4):=Lib.hid (by rw [← HL2.out,← HL4.out];exact HOK.out.len.symm)
  obtain ⟨⟨g0,g1,g2,g3,-,-,-,-⟩,k1,-⟩:=HKK.out w2 HB2.out
  clear hv HR1
  go_wp2_with fail
  refine (valuesOf_any a1 n1 c1 e.base _ k1).mono ?_;rintro e1 w3 ⟨rfl,hb3⟩
  have hA0:=Arr.new w3 103 zeros
  have hvA:valsM e.base=arrOf e.base:=by simp [valsM,HOK.out.base]
  rw [hvA,HOK.out.base]
  have HAL:=Lib.hid (arrOf_len e.base)
  obtain ⟨AA,hA⟩:∃ A,A=arrOf e.base:=⟨_,rfl⟩
  rw [← hA] at HAL ⊢
  have HAE:=Lib.hid hA
  have HB3:=Lib.hid (HB2.out.trans (hb3.mono HB2.out.size))
  clear hA k1 hb3 g0 g1 g2 g3 hvA
  go_upto_region 4 with (first | (refine wpList_store_arr' rfl _ _ _ rfl _ AA (by rfl) (by rfl) 103 _ hA0 (by rw [HAL.out];exact infoArr) (by rw [HAL.out];rfl) ?_;intro w0 hA2 hg2 hz2))
  have HB0:Hid (Below W1.heap.size W1 w0):=Lib.hid ((HB3.out.alloc HB3.out.size _).grown hg2 (by simp;have:=HB3.out.size;omega) fun k hk=>by cases hk;exact HB3.out.size)
  obtain ⟨KB,hK⟩:∃ K,K=w3.heap.size:=⟨_,rfl⟩
  rw [← hK] at hA2 ⊢
  obtain ⟨hk0,hk1,hk2,hk4,hkb⟩:=HKK.out w0 HB0.out
  have HKC:Hid (∀ W,Below w0.heap.size w0 W→W.heap[KB]? = some (.cells (valC AA).toArray 103 (0,0))):=Lib.hid (fun W hb=>hA2.after hb)
  have HSZ:Hid ((Tryz.prog.info? 103).map (·.size)=some (valC AA).toArray.size):=Lib.hid (by rw [List.size_toArray,valC_len,HAL.out];exact infoArr)
  have HEC:=Lib.hid (fun W (hb:Below w0.heap.size w0 W)=>(⟨(hk0.below hb).c1,(hk0.below hb).c3⟩ : _∧_))
  have HW2:=Lib.hid (fun W (hb:Below w0.heap.size w0 W)=>hk2.below hb)
  have HS4:=Lib.hid (fun W (hb:Below w0.heap.size w0 W)=>hk4.below hb)
  have HWV:=Lib.hid (fun W (hb:Below w0.heap.size w0 W)=>written_impl a4 n4 c4 e.slots W (hk4.below hb) hten (fun k hk=>slot_wr (HOK.out.act (by rw [HL4.out];exact hk)) (HOK.out.slot k (by rw [HL4.out];exact hk))))
  have hV0:vsN (e.slots.map Slt.res) n4=e.vers:=by have:=HOK.out.vers;rw [HL4.out] at this;exact this.symm
  obtain ⟨V0,hV0e⟩:∃ V,V=vsN (e.slots.map Slt.res) n4:=⟨_,rfl⟩
  have HV0:Hid (V0=e.vers):=Lib.hid (by rw [hV0e,hV0])
  unfold WrittenW at HWV
  rw [← hV0e] at HWV
  have HBW:=Lib.hid hkb
  have HE0:=Lib.hid (fun W (hb:Below w0.heap.size w0 W)=>hk0.below hb)
  have hn3:n2≤3000000:=by have:=HN24.out;omega
  have hm4:n4≤4000000:=by omega
  obtain ⟨E0,hE0⟩:∃ E,E=w.heap.size:=⟨_,rfl⟩
  rw [← hE0] at HEC HE0 ⊢
  have HE0E:=Lib.hid hE0
  clear hA0 hg2 hz2 hA2 hK hk0 hk1 hk2 hk4 hkb hV0 hV0e hE0 HB3 HKK
  refine wp_region_light (by kernel_rfl) (LastJ (fun lz fz wz=>Vals [(0,18,(.agg (valC AA).toArray)),(1,19,(.pointer (some ⟨E0,1,none⟩))),(2,20,(.slice a2 n2 c2)),(4,22,(.pointer (some ⟨E0,3,none⟩))),(5,23,(.slice a4 n4 c4)),(7,25,(.pointer (some ⟨E0,3,none⟩))),(8,26,(.slice a4 n4 c4)),(9,27,(.int .i64 (n4:Int)))] lz fz∧Deps [(⟨11,29,[(3,21),(6,24),(10,28)],fun f=>.agg ((Tryz.prog.built 132 [(0,.agg (valC AA).toArray),(1,f 21),(2,f 24),(3,f 28)]).getD #[]),fun f g h=>by simp at h;simp [h]⟩:DepT)] lz fz∧RowsJ w0 [(⟨3,none,21,87,4,n2,(flatA e.list)⟩:RowT),(⟨10,none,28,75,6,n4,((madeCells (Value.agg #[.int .i64 0,.int .i64 0,.slice none 0 0,.bool false,.slice none 0 0,.slice none 0 0]).cells (n4*6)).toList)⟩:RowT)] lz fz wz∧PtrJ w0 [(⟨3,none,21,87,4,n2,(flatA e.list)⟩:RowT),(⟨10,none,28,75,6,n4,((madeCells (Value.agg #[.int .i64 0,.int .i64 0,.slice none 0 0,.bool false,.slice none 0 0,.slice none 0 0]).cells (n4*6)).toList)⟩:RowT)] 12 6 (fun (W:World) b=>W.heap[b]? = some (.cells zeroSt.toArray 132 (0,0))) lz fz wz∧ThgJ w0 [(⟨3,none,21,87,4,n2,(flatA e.list)⟩:RowT),(⟨10,none,28,75,6,n4,((madeCells (Value.agg #[.int .i64 0,.int .i64 0,.slice none 0 0,.bool false,.slice none 0 0,.slice none 0 0]).cells (n4*6)).toList)⟩:RowT)] 6 24 (blKV) (isKV w0.heap.size V0) lz fz wz) 13 14 (fun f wz=>∃ (w1:World) (vL vS:Value) (vs:List Value) (F:Nat→List Ver) (b:Nat),f 6 = .pointer (some ⟨b,0,none⟩)∧OwnR w1 w0.heap.size w1.heap.size [⟨vL,87,4,n2,flatA e.list⟩,⟨vS,75,6,n4,(madeCells (Value.agg #[.int .i64 0,.int .i64 0,.slice none 0 0,.bool false,.slice none 0 0,.slice none 0 0]).cells (n4*6)).toList⟩]∧KVs w1 w0.heap.size 73 vs F∧KOk F∧catK F 32=V0∧(∀ i,i < 32→∀ q,(vs.getD i undef).ownBlock=some q→blk vL≠some q∧blk vS≠some q)∧w0.heap.size≤b∧b < w1.heap.size∧blk vL≠some b∧blk vS≠some b∧w1.heap[b]? = some (.cells zeroSt.toArray 132 (0,0))∧Below w0.heap.size w0 w1∧wz=w1.setRow b (valC AA++[vL]++vs++[vS,.slice none 0 0]).toArray)) 54 rfl [18,19,20,21,22,23,24,25,26,27,28,29,6] (by kernel_rfl) (by kernel_rfl) (by kernel_rfl) (fun f=>LastJ.nothing ⟨Vals.nothing _ f,Deps.nothing _ f,RowsJ.nothing _ _ f,PtrJ.nothing _ _ _ _ _ f _,ThgJ.nothing _ _ _ _ _ _ f _⟩) ?_ ?_
  · intro i hi
    rcases (by have:i < 14:=hi;omega:i=0∨i=1∨i=2∨i=3∨i=4∨i=5∨i=6∨i=7∨i=8∨i=9∨i=10∨i=11∨i=12∨i=13) with rfl | rfl | rfl | rfl | rfl | rfl | rfl | rfl | rfl | rfl | rfl | rfl | rfl | rfl
    · clear hi;intro o ho lz fz w' A hJ hli ha hA K hK
      obtain ⟨hv,hd,hq,hp,ht⟩:=hJ.now (i:=0) (by omega) hli
      obtain rfl:=Option.some.inj ho
      clear ho
      have hB:=hq.below
      have g4:=slot_out hA 4 _ (by decide) (by decide) rfl
      simp only [List.getD_cons_succ,List.getD_cons_zero] at g4
      have gg4:=slot_get g4
      rw [if_pos (by rfl)]
      refine wp_load_row 103 (.tmp 4) rfl KB (by rw [slot_eval g4]) 103 (valC AA).toArray (0,0) _ (HKC.out w' hB) Tryz.underlying103 rfl HSZ.out ?_
      exact hK _ w' (LastJ.step hJ 0 (by omega) hli (by decide) ⟨hv.step 0 18 _ (by simp),hd.step 0 18 _ hli (by simp [allR]),hq.still 0 18 _ (Below.refl _ _) (by simp),hp.still (fun _ _ _ hb h=>hb.trans h) 0 18 _ (by decide) (by decide) (Below.refl _ _) (by simp),ht.still isKV_keep 0 18 _ (by decide) (by decide) (Below.refl _ _) (by simp)⟩)
    · clear hi;intro o ho lz fz w' A hJ hli ha hA K hK
      obtain ⟨hv,hd,hq,hp,ht⟩:=hJ.now (i:=1) (by omega) hli
      obtain rfl:=Option.some.inj ho
      clear ho
      have hB:=hq.below
      have g1:=slot_out hA 1 _ (by decide) (by decide) rfl
      simp only [List.getD_cons_succ,List.getD_cons_zero] at g1
      have gg1:=slot_get g1
      rw [if_pos (by rfl)]
      have hF:=hK (.pointer (some ⟨E0,1,none⟩)) w' (LastJ.step hJ 1 (by omega) hli (by decide) ⟨hv.step 1 19 _ (by simp),hd.step 1 19 _ hli (by simp [allR]),hq.still 1 19 _ (Below.refl _ _) (by simp),hp.still (fun _ _ _ hb h=>hb.trans h) 1 19 _ (by decide) (by decide) (Below.refl _ _) (by simp),ht.still isKV_keep 1 19 _ (by decide) (by decide) (Below.refl _ _) (by simp)⟩)
      clear hv hp ht hq ha hK hA hli hd hB hJ
      go_simp
      exact hF
    · clear hi;intro o ho lz fz w' A hJ hli ha hA K hK
      obtain ⟨hv,hd,hq,hp,ht⟩:=hJ.now (i:=2) (by omega) hli
      obtain rfl:=Option.some.inj ho
      clear ho
      have hB:=hq.below
      have g19:=slot_in hA 19 (by decide) (by decide) (hv (1,19,(.pointer (some ⟨E0,1,none⟩))) (by simp) (ha 1 (by simp [aftersOf,Region.binds])))
      have gg19:=slot_get g19
      rw [if_pos (by rfl)]
      have kc:=(HEC.out w' hB).1
      have hF:=hK (.slice a2 n2 c2) w' (LastJ.step hJ 2 (by omega) hli (by decide) ⟨hv.step 2 20 _ (by simp),hd.step 2 20 _ hli (by simp [allR]),hq.still 2 20 _ (Below.refl _ _) (by simp),hp.still (fun _ _ _ hb h=>hb.trans h) 2 20 _ (by decide) (by decide) (Below.refl _ _) (by simp),ht.still isKV_keep 2 20 _ (by decide) (by decide) (Below.refl _ _) (by simp)⟩)
      clear hv hp ht hq ha hK hA hli hd hB hJ
      go_simp
      exact hF
    · clear hi;intro o ho lz fz w' A hJ hli ha hA K hK
      obtain ⟨hv,hd,hq,hp,ht⟩:=hJ.now (i:=3) (by omega) hli
      obtain rfl:=Option.some.inj ho
      clear ho
      have hB:=hq.below
      have g20:=slot_in hA 20 (by decide) (by decide) (hv (2,20,(.slice a2 n2 c2)) (by simp) (ha 2 (by simp [aftersOf,Region.binds])))
      have gg20:=slot_get g20
      rw [if_pos (by rfl)]
      have hh:=HW2.out w' hB
      clear hA
      go_simp
      refine (cloneA_any a2 n2 c2 e.list w' hh HZ2.out hn3).mono ?_
      rintro e9 w9 ⟨v9,rfl,ho9,hb9⟩
      exact hK v9 w9 (LastJ.step hJ 3 (by omega) hli (by decide) ⟨hv.step 3 21 _ (by simp),hd.step 3 21 _ hli (by simp [allR]),hq.new 3 21 _ hb9 (by simp;exact ho9),hp.new (fun _ _ _ hb h=>hb.trans h) 3 21 _ (by decide) (by decide) hb9 (by simp;exact ho9),ht.new isKV_keep 3 21 _ (by decide) (by decide) hb9 (by simp;exact ho9)⟩)
    · clear hi;intro o ho lz fz w' A hJ hli ha hA K hK
      obtain ⟨hv,hd,hq,hp,ht⟩:=hJ.now (i:=4) (by omega) hli
      obtain rfl:=Option.some.inj ho
      clear ho
      have hB:=hq.below
      have g1:=slot_out hA 1 _ (by decide) (by decide) rfl
      simp only [List.getD_cons_succ,List.getD_cons_zero] at g1
      have gg1:=slot_get g1
      rw [if_pos (by rfl)]
      have hF:=hK (.pointer (some ⟨E0,3,none⟩)) w' (LastJ.step hJ 4 (by omega) hli (by decide) ⟨hv.step 4 22 _ (by simp),hd.step 4 22 _ hli (by simp [allR]),hq.still 4 22 _ (Below.refl _ _) (by simp),hp.still (fun _ _ _ hb h=>hb.trans h) 4 22 _ (by decide) (by decide) (Below.refl _ _) (by simp),ht.still isKV_keep 4 22 _ (by decide) (by decide) (Below.refl _ _) (by simp)⟩)
      clear hv hp ht hq ha hK hA hli hd hB hJ
      go_simp
      exact hF
    · clear hi;intro o ho lz fz w' A hJ hli ha hA K hK
      obtain ⟨hv,hd,hq,hp,ht⟩:=hJ.now (i:=5) (by omega) hli
      obtain rfl:=Option.some.inj ho
      clear ho
      have hB:=hq.below
      have g22:=slot_in hA 22 (by decide) (by decide) (hv (4,22,(.pointer (some ⟨E0,3,none⟩))) (by simp) (ha 4 (by simp [aftersOf,Region.binds])))
      have gg22:=slot_get g22
      rw [if_pos (by rfl)]
      have kc:=(HEC.out w' hB).2
      have hF:=hK (.slice a4 n4 c4) w' (LastJ.step hJ 5 (by omega) hli (by decide) ⟨hv.step 5 23 _ (by simp),hd.step 5 23 _ hli (by simp [allR]),hq.still 5 23 _ (Below.refl _ _) (by simp),hp.still (fun _ _ _ hb h=>hb.trans h) 5 23 _ (by decide) (by decide) (Below.refl _ _) (by simp),ht.still isKV_keep 5 23 _ (by decide) (by decide) (Below.refl _ _) (by simp)⟩)
      clear hv hp ht hq ha hK hA hli hd hB hJ
      go_simp
      exact hF
    · clear hi;intro o ho lz fz w' A hJ hli ha hA K hK
      obtain ⟨hv,hd,hq,hp,ht⟩:=hJ.now (i:=6) (by omega) hli
      obtain rfl:=Option.some.inj ho
      clear ho
      have hB:=hq.below
      have g23:=slot_in hA 23 (by decide) (by decide) (hv (5,23,(.slice a4 n4 c4)) (by simp) (ha 5 (by simp [aftersOf,Region.binds])))
      have gg23:=slot_get g23
      rw [if_pos (by rfl)]
      have hh:=HWV.out w' hB
      clear hA
      go_simp
      refine hh.mono ?_
      rintro e9 w9 ⟨vs9,F9,rfl,hK9,hF9,hC9,hb9⟩
      exact hK _ w9 (LastJ.step hJ 6 (by omega) hli (by decide) ⟨hv.step 6 24 _ (by simp),hd.step 6 24 _ hli (by simp [allR]),hq.still 6 24 _ hb9 (by simp),hp.still (fun _ _ _ hb h=>hb.trans h) 6 24 _ (by decide) (by decide) hb9 (by simp),ThgJ.make hq _ ⟨vs9,F9,rfl,hK9.mono hB.size,hF9,hC9⟩ (blKV_lt hK9) (by simp)⟩)
    · clear hi;intro o ho lz fz w' A hJ hli ha hA K hK
      obtain ⟨hv,hd,hq,hp,ht⟩:=hJ.now (i:=7) (by omega) hli
      obtain rfl:=Option.some.inj ho
      clear ho
      have hB:=hq.below
      have g1:=slot_out hA 1 _ (by decide) (by decide) rfl
      simp only [List.getD_cons_succ,List.getD_cons_zero] at g1
      have gg1:=slot_get g1
      rw [if_pos (by rfl)]
      have hF:=hK (.pointer (some ⟨E0,3,none⟩)) w' (LastJ.step hJ 7 (by omega) hli (by decide) ⟨hv.step 7 25 _ (by simp),hd.step 7 25 _ hli (by simp [allR]),hq.still 7 25 _ (Below.refl _ _) (by simp),hp.still (fun _ _ _ hb h=>hb.trans h) 7 25 _ (by decide) (by decide) (Below.refl _ _) (by simp),ht.still isKV_keep 7 25 _ (by decide) (by decide) (Below.refl _ _) (by simp)⟩)
      clear hv hp ht hq ha hK hA hli hd hB hJ
      go_simp
      exact hF
    · clear hi;intro o ho lz fz w' A hJ hli ha hA K hK
      obtain ⟨hv,hd,hq,hp,ht⟩:=hJ.now (i:=8) (by omega) hli
      obtain rfl:=Option.some.inj ho
      clear ho
      have hB:=hq.below
      have g25:=slot_in hA 25 (by decide) (by decide) (hv (7,25,(.pointer (some ⟨E0,3,none⟩))) (by simp) (ha 7 (by simp [aftersOf,Region.binds])))
      have gg25:=slot_get g25
      rw [if_pos (by rfl)]
      have kc:=(HEC.out w' hB).2
      have hF:=hK (.slice a4 n4 c4) w' (LastJ.step hJ 8 (by omega) hli (by decide) ⟨hv.step 8 26 _ (by simp),hd.step 8 26 _ hli (by simp [allR]),hq.still 8 26 _ (Below.refl _ _) (by simp),hp.still (fun _ _ _ hb h=>hb.trans h) 8 26 _ (by decide) (by decide) (Below.refl _ _) (by simp),ht.still isKV_keep 8 26 _ (by decide) (by decide) (Below.refl _ _) (by simp)⟩)
      clear hv hp ht hq ha hK hA hli hd hB hJ
      go_simp
      exact hF
    · clear hi;intro o ho lz fz w' A hJ hli ha hA K hK
      obtain ⟨hv,hd,hq,hp,ht⟩:=hJ.now (i:=9) (by omega) hli
      obtain rfl:=Option.some.inj ho
      clear ho
      have hB:=hq.below
      have g26:=slot_in hA 26 (by decide) (by decide) (hv (8,26,(.slice a4 n4 c4)) (by simp) (ha 8 (by simp [aftersOf,Region.binds])))
      have gg26:=slot_get g26
      rw [if_pos (by rfl)]
      have hF:=hK (.int .i64 (n4:Int)) w' (LastJ.step hJ 9 (by omega) hli (by decide) ⟨hv.step 9 27 _ (by simp),hd.step 9 27 _ hli (by simp [allR]),hq.still 9 27 _ (Below.refl _ _) (by simp),hp.still (fun _ _ _ hb h=>hb.trans h) 9 27 _ (by decide) (by decide) (Below.refl _ _) (by simp),ht.still isKV_keep 9 27 _ (by decide) (by decide) (Below.refl _ _) (by simp)⟩)
      clear hv hp ht hq ha hK hA hli hd hB hJ
      go_simp
      exact hF
    · clear hi;intro o ho lz fz w' A hJ hli ha hA K hK
      obtain ⟨hv,hd,hq,hp,ht⟩:=hJ.now (i:=10) (by omega) hli
      obtain rfl:=Option.some.inj ho
      clear ho
      have hB:=hq.below
      have g27:=slot_in hA 27 (by decide) (by decide) (hv (9,27,(.int .i64 (n4:Int))) (by simp) (ha 9 (by simp [aftersOf,Region.binds])))
      have gg27:=slot_get g27
      rw [if_pos (by rfl)]
      refine wp_make_full (.tmp 27) (.tmp 27) 55 rfl 75 (.agg #[.int .i64 0,.int .i64 0,.slice none 0 0,.bool false,.slice none 0 0,.slice none 0 0]) 6 96 Tryz.underlying55 infoSlot n4 (by rw [slot_eval g27]) (by rw [slot_eval g27]) hm4 (by decide) ?_
      intro w9 ho9 hb9
      exact hK _ w9 (LastJ.step hJ 10 (by omega) hli (by decide) ⟨hv.step 10 28 _ (by simp),hd.step 10 28 _ hli (by simp [allR]),hq.new 10 28 _ hb9 (by simp;exact ho9),hp.new (fun _ _ _ hb h=>hb.trans h) 10 28 _ (by decide) (by decide) hb9 (by simp;exact ho9),ht.new isKV_keep 10 28 _ (by decide) (by decide) hb9 (by simp;exact ho9)⟩)
    · clear hi;intro o ho lz fz w' A hJ hli ha hA K hK
      obtain ⟨hv,hd,hq,hp,ht⟩:=hJ.now (i:=11) (by omega) hli
      obtain rfl:=Option.some.inj ho
      clear ho
      have hB:=hq.below
      have g18:=slot_in hA 18 (by decide) (by decide) (hv (0,18,(.agg (valC AA).toArray)) (by simp) (ha 0 (by simp [aftersOf,Region.binds])))
      have g21:A.tmps.getD 21 undef=fz 21:=slot_in hA 21 (by decide) (by decide) rfl
      have g24:A.tmps.getD 24 undef=fz 24:=slot_in hA 24 (by decide) (by decide) rfl
      have g28:A.tmps.getD 28 undef=fz 28:=slot_in hA 28 (by decide) (by decide) rfl
      have gg18:=slot_get g18
      have gg21:=slot_get g21
      have gg24:=slot_get g24
      have gg28:=slot_get g28
      rw [if_pos (by rfl)]
      have o21:=hq.at (t:=(⟨3,none,21,87,4,n2,(flatA e.list)⟩:RowT)) (by simp) (ha 3 (by simp [aftersOf,Region.binds])) (by rfl)
      obtain ⟨p21,q21,k21,e21⟩:=slice_form o21
      simp only at e21
      have o28:=hq.at (t:=(⟨10,none,28,75,6,n4,((madeCells (Value.agg #[.int .i64 0,.int .i64 0,.slice none 0 0,.bool false,.slice none 0 0,.slice none 0 0]).cells (n4*6)).toList)⟩:RowT)) (by simp) (ha 10 (by simp [aftersOf,Region.binds])) (by rfl)
      obtain ⟨p28,q28,k28,e28⟩:=slice_form o28
      simp only at e28
      obtain ⟨vs,F9,e24,hK9,-⟩:=(ht (ha 6 (by simp [aftersOf,Region.binds]))).1
      have hbt:=built_step (valC AA) vs p21 p28 q21 k21 q28 k28 (by rw [valC_len];exact HAL.out) hK9.len
      rw [← e21,← e24,← e28] at hbt
      have hev:(#[(0,Operand.tmp 18),(1,Operand.tmp 21),(2,Operand.tmp 24),(3,Operand.tmp 28)].map fun (i,x)=>(i,A.eval x)).toList=[(0,.agg (valC AA).toArray),(1,fz 21),(2,fz 24),(3,fz 28)]:=by simp [slot_eval g18,slot_eval g21,slot_eval g24,slot_eval g28]
      refine wp_build 132 #[(0,.tmp 18),(1,.tmp 21),(2,.tmp 24),(3,.tmp 28)] rfl (by rw [hev,hbt];rfl) ?_
      rw [hev]
      exact hK _ w' (LastJ.step hJ 11 (by omega) hli (by decide) ⟨hv.step 11 29 _ (by simp),hd.step 11 29 _ hli (by simp [allR,ha 3 (by simp [aftersOf,Region.binds]),ha 6 (by simp [aftersOf,Region.binds]),ha 10 (by simp [aftersOf,Region.binds])]),hq.still 11 29 _ (Below.refl _ _) (by simp),hp.still (fun _ _ _ hb h=>hb.trans h) 11 29 _ (by decide) (by decide) (Below.refl _ _) (by simp),ht.still isKV_keep 11 29 _ (by decide) (by decide) (Below.refl _ _) (by simp)⟩)
    · clear hi;intro o ho lz fz w' A hJ hli ha hA K hK
      obtain ⟨hv,hd,hq,hp,ht⟩:=hJ.now (i:=12) (by omega) hli
      obtain rfl:=Option.some.inj ho
      clear ho
      have hB:=hq.below
      rw [if_pos (by rfl)]
      go_simp
      exact hK _ _ (LastJ.step hJ 12 (by omega) hli (by decide) ⟨hv.step 12 6 _ (by simp),hd.step 12 6 _ hli (by simp [allR]),hq.still 12 6 _ ((Below.refl w'.heap.size w').alloc (Nat.le_refl _) _) (by simp),PtrJ.make hq _ (heap_alloc_new _ _) (by simp),ht.still isKV_keep 12 6 _ (by decide) (by decide) ((Below.refl w'.heap.size w').alloc (Nat.le_refl _) _) (by simp)⟩)
    · clear hi;intro o ho lz fz w' A hJ hli ha hA K hK
      obtain ⟨hv,hd,hq,hp,ht⟩:=hJ.now (i:=13) (by omega) hli
      obtain rfl:=Option.some.inj ho
      clear ho
      have hB:=hq.below
      have g6:A.tmps.getD 6 undef=fz 6:=slot_in hA 6 (by decide) (by decide) rfl
      have hd29:=(hd (⟨11,29,[(3,21),(6,24),(10,28)],fun f=>.agg ((Tryz.prog.built 132 [(0,.agg (valC AA).toArray),(1,f 21),(2,f 24),(3,f 28)]).getD #[]),fun f g h=>by simp at h;simp [h]⟩:DepT) (by simp) (ha 11 (by simp [aftersOf,Region.binds]))).2
      simp only at hd29
      have g29:A.tmps.getD 29 undef=fz 29:=slot_in hA 29 (by decide) (by decide) rfl
      have gg6:=slot_get g6
      have gg29:=slot_get g29
      rw [if_pos (by rfl)]
      have hall:∀ k,k < 13→lz k=true:=fun k hk=>ha k (by have hk2:k < 13:=hk;rcases (by omega:k=0∨k=1∨k=2∨k=3∨k=4∨k=5∨k=6∨k=7∨k=8∨k=9∨k=10∨k=11∨k=12) with rfl | rfl | rfl | rfl | rfl | rfl | rfl | rfl | rfl | rfl | rfl | rfl | rfl <;> simp [aftersOf,Region.binds])
      have hR:=hq.list [(⟨3,none,21,87,4,n2,(flatA e.list)⟩:RowT),(⟨10,none,28,75,6,n4,((madeCells (Value.agg #[.int .i64 0,.int .i64 0,.slice none 0 0,.bool false,.slice none 0 0,.slice none 0 0]).cells (n4*6)).toList)⟩:RowT)] (by simp [RowT.live,hall 3 (by decide),hall 10 (by decide)]) (by simp)
      simp only [List.map_cons,List.map_nil,RowT.row] at hR
      obtain ⟨p21,q21,k21,e21⟩:=slice_form hR.head
      simp only at e21
      obtain ⟨p28,q28,k28,e28⟩:=slice_form hR.tail.head
      simp only at e28
      obtain ⟨⟨vs,F9,e24,hK9,hF9,hC9⟩,hx9⟩:=ht (hall 6 (by decide))
      obtain ⟨b,e6,hb0,hb1,hbz,hb2⟩:=hp (hall 12 (by decide))
      have hbt:=built_step (valC AA) vs p21 p28 q21 k21 q28 k28 (by rw [valC_len];exact HAL.out) hK9.len
      have hd29':=hd29
      rw [e21,e24,e28,hbt] at hd29'
      have ha21:∀ q,blk (fz 21)=some q→¬ blKV (fz 24) q:=fun q hq1 hq2=>(hx9 q hq2).2 (⟨3,none,21,87,4,n2,(flatA e.list)⟩:RowT) (by simp) (by simp [RowT.live,hall 3 (by decide)]) hq1
      have ha28:∀ q,blk (fz 28)=some q→¬ blKV (fz 24) q:=fun q hq1 hq2=>(hx9 q hq2).2 (⟨10,none,28,75,6,n4,((madeCells (Value.agg #[.int .i64 0,.int .i64 0,.slice none 0 0,.bool false,.slice none 0 0,.slice none 0 0]).cells (n4*6)).toList)⟩:RowT) (by simp) (by simp [RowT.live,hall 10 (by decide)]) hq1
      have hb21:blk (fz 21)≠some b:=hb2 (⟨3,none,21,87,4,n2,(flatA e.list)⟩:RowT) (by simp) (by simp [RowT.live,hall 3 (by decide)])
      have hb28:blk (fz 28)≠some b:=hb2 (⟨10,none,28,75,6,n4,((madeCells (Value.agg #[.int .i64 0,.int .i64 0,.slice none 0 0,.bool false,.slice none 0 0,.slice none 0 0]).cells (n4*6)).toList)⟩:RowT) (by simp) (by simp [RowT.live,hall 10 (by decide)])
      refine wp_store_row 132 (.tmp 6) (.tmp 29) rfl b _ (by rw [slot_eval g6,e6]) (by rw [slot_eval g29,hd29'];rfl) 132 zeroSt.toArray hbz (by rw [infoSt];simp [valC_len,HAL.out,hK9.len]) (by simp [zeroSt,nils,valC_len,HAL.out,hK9.len]) (one_cells hK9) ?_
      exact hK undef _ (LastJ.last (fun i hi hne=>hall i (by omega)) ⟨w',fz 21,fz 28,vs,F9,b,by simpa using e6,hR,hK9,hF9,hC9,fun i hi q hq=>⟨fun h1=>ha21 q h1 ⟨vs,e24,i,hi,hq⟩,fun h1=>ha28 q h1 ⟨vs,e24,i,hi,hq⟩⟩,hb0,hb1,hb21,hb28,hbz,hB,by rw [e21,e28]⟩)
  · intro lz fz w5 hall hJ
    have hfin:=(hJ.2 (hall 13 (by decide))).2
    simp only [mixF,List.contains_cons,List.contains_nil]
    go_simp
    obtain ⟨w1,vL,vS,vs,F9,b,e6,hR,hK9,hF9,hC9,hx9,hb0,hb1,hbL,hbS,hbz,hbw,hw5⟩:=hfin
    have HST0:Hid (BldIn w5 b w0.heap.size 132 tEng e (fillTo e 0) (queTo e 0) vL vS (.slice none 0 0) (List.replicate e.slots.length nil3) vs):=Lib.hid (BldIn.start (w1:=w1) (b0:=0) (by rw [HL2.out,HL4.out];exact hR) (hK9.congr (fun k hk=>by rw [← HV0.out,← hC9,ofK_catK hF9 hk])) hx9 hb1 hbL hbS hbz (by decide) (by rw [hw5,HAE.out]))
    have HBW5:Hid (Below w0.heap.size w0 w5):=Lib.hid (by rw [hw5];exact below_setRow hbw hb0 _)
    have HBB:Hid (w0.heap.size≤b):=Lib.hid hb0
    rw [e6]
    clear e6 hR hK9 hF9 hC9 hx9 hb0 hb1 hbL hbS hbz hbw hw5 hJ hall hn3 hm4
    obtain ⟨⟨y0,y1,y2,y3,-,-,-,-⟩,-⟩:EgAt w5 E0 (.slice a1 n1 c1) (.slice a2 n2 c2) (.slice a3 n3 c3) (.slice a4 n4 c4)∧True:=⟨HE0.out w5 HBW5.out,trivial⟩
    go_wp2_with fail
    clear y0 y1 y2 y3
    go_loopw [33] (fun i wr=>∃ (k:Nat) (qv:Value) (ts:List (Value × Value × Value)),k≤n4∧i = .int .i64 k∧BldIn wr b w0.heap.size 132 tEng e (fillTo e k) (queTo e k) vL vS qv ts vs∧Below w0.heap.size w0 wr) (fun i _=>n4 - (intOf i).toNat)
    case atStart=>exact ⟨0,_,_,Nat.zero_le _,rfl,HST0.out,HBW5.out⟩
    case round =>
     clear HST0 HBW5
     obtain ⟨k,qv,ts,hk,rfl,hbl,hb⟩:=hrel
     have HBL:=Lib.hid hbl
     have HB:=Lib.hid hb
     by_cases hlt:k < n4
     · have hks:k < e.slots.length:=by rw [HL4.out];exact hlt
       have HKS:=Lib.hid hks
       obtain ⟨b4,o4,rfl,hsl⟩:=(HS4.out wr hb).at k hlt
       obtain ⟨g,cS,rfl,hgB⟩:∃ g cS,vS = .slice (some ⟨g,0,none⟩) e.slots.length cS∧w0.heap.size≤g:=by
        rcases slice_of_owns hbl.rowS with ⟨-,h2⟩ | ⟨g,cap,h1,h3,-⟩
        · rw [fillTo_len e (by omega)] at h2;omega
        · rw [fillTo_len e (by omega)] at h1;exact ⟨g,cap,h1,h3⟩
       have hsw:=(engWf_ok HOK.out).slots _ (getD_memS e.slots k hks)
       have hqn:(queTo e (k+1))=if stg e k=2 then queTo e k else queTo e k++[(k:Int)]:=rfl
       have hql:=queTo_len e k
       have hfn:=fillTo_next e hks
       have hstg:stg e k=(e.slots.getD k noSlt).stage:=rfl
       have hc3:(e.slots.getD k noSlt).from_.length≤3000000∧(e.slots.getD k noSlt).res.rds.length≤3000000∧(e.slots.getD k noSlt).res.wrs.length≤3000000:=by
        by_cases h0:(e.slots.getD k noSlt).stage=0
        · rw [(slot_new (HOK.out.slot k hks) h0).1];simp [noEff]
        · have hso:=slot_old (HOK.out.act hks) (HOK.out.slot k hks) h0
          have hrl:=readsM_len (e.list.getD k noA)
          have hwl:=wr_len (slot_wr (HOK.out.act hks) (HOK.out.slot k hks))
          refine ⟨by rw [hso.flen];omega,by rw [hso.rds,List.length_map];omega,by omega⟩
       obtain ⟨s,hs⟩:∃ s,s=e.slots.getD k noSlt:=⟨_,rfl⟩
       rw [← hs] at hsl hsw hfn hstg hc3
       rw [hstg] at hqn
       have HFN:=Lib.hid hfn
       have HQN:=Lib.hid hqn
       clear hs hsw hqn hfn hstg
       obtain ⟨s0,s1,⟨v2,s2,av,nv,cv,rfl,hrv⟩,s3,⟨v4,s4,aw,nw,cw,rfl,hrw⟩,v5,s5,ax,nx,cx,rfl,hrx⟩:=hsl
       have i1:(0:Int)≤(k:Int):=by omega
       have i2:(k:Int) < (n4:Int):=by omega
       go_upto_region 8 with (fail)
       generalize hw6:World.alloc _ _=w6
       have hb6:Below wr.heap.size wr w6:=by rw [← hw6];exact (Below.refl _ _).alloc (Nat.le_refl _) _
       have hx6:SxAt w6 wr.heap.size (.int .i64 s.stage) (.int .i64 s.tries) (.slice av nv cv) (.bool s.res.done) (.slice aw nw cw) (.slice ax nx cx):=by rw [← hw6];exact sxAt_new wr _ _ _ _ _ _ _
       have HX6:=Lib.hid hx6
       have HB6:=Lib.hid hb6
       have HCP:=Lib.hid (slotCopied_impl s av nv cv aw nw cw ax nx cx w6.drew ((show SliI wr (.slice av nv cv) s.from_ from ⟨_,_,_,rfl,hrv⟩).below (hb6.drew)) ((show SliE wr (.slice aw nw cw) s.res.rds from ⟨_,_,_,rfl,hrw⟩).below (hb6.drew)) ((show SliE wr (.slice ax nx cx) s.res.wrs from ⟨_,_,_,rfl,hrx⟩).below (hb6.drew)) hc3.1 hc3.2.1 hc3.2.2)
       unfold slV at HCP
       have h65:=(hbl.below hb6).c65
       have hGl:=(hbl.below hb6).lt
       have hDl:=hx6.lt
       rw [HL4.out] at h65
       have HKP:=Lib.hid (fun W' (hq:Below w6.heap.size w6 W')=>(⟨below_cz hq hGl h65,below_cz hq hDl hx6.c0,below_cz hq hDl hx6.c1,below_cz hq hDl hx6.c2,below_cz hq hDl hx6.c3,below_cz hq hDl hx6.c4,below_cz hq hDl hx6.c5⟩ : _∧_∧_∧_∧_∧_∧_))
       have hgo:=hbl.off ⟨.slice (some ⟨g,0,none⟩) e.slots.length cS,tEng.tS,6,(fillTo e k).length,slsCs (fillTo e k) ts⟩ (by simp [stRs,Eng.slotsOf]) g rfl
       have HNE:Hid ((b=g→False)∧(wr.heap.size=g→False)):=Lib.hid ⟨fun e1=>hgo (.inl e1.symm),fun e1=>by
        have:=(hbl.rowS.lt g rfl).2;omega⟩
       have HGB:=Lib.hid hgB
       obtain ⟨D,hD⟩:∃ D,D=wr.heap.size:=⟨_,rfl⟩
       have HDE:=Lib.hid hD
       rw [← hD] at HX6 HKP HNE ⊢
       clear hw6 hb6 hx6 hbl hb s0 s1 s2 s3 s4 s5 hrv hrw hrx h65 hGl hDl hgo hc3 hgB hD hks
       have hkd:=HKP.out w6.drew ((Below.refl w6.heap.size w6).drew)
       go_region_held3 (fun w'=>w'.cell? ⟨b,65,none⟩=some (.slice (some ⟨g,0,none⟩) n4 cS)∧w'.cell? ⟨D,0,none⟩=some (.int .i64 s.stage)∧w'.cell? ⟨D,1,none⟩=some (.int .i64 s.tries)∧w'.cell? ⟨D,2,none⟩=some (.slice av nv cv)∧w'.cell? ⟨D,3,none⟩=some (.bool s.res.done)∧w'.cell? ⟨D,4,none⟩=some (.slice aw nw cw)∧w'.cell? ⟨D,5,none⟩=some (.slice ax nx cx))
        (first | (with_reducible exact hkd) | (with_reducible exact try_keep6 HNE.out _ _ _ _ _ _ hkp) | (with_reducible exact hkp))
        (first | (go_at_call 158;(with_reducible refine HCP.out.mono ?_);rintro e1 w7 ⟨x7,y7,z7,he7,hR7,hwi7,hwx7,hwy7,hb7'⟩;unfold slV at he7;subst he7;obtain ⟨px,qx,kx,rfl⟩:=slice_form hR7.head;obtain ⟨py,qy,ky,rfl⟩:=slice_form hR7.tail.head;obtain ⟨pz,qz,kz,rfl⟩:=slice_form hR7.tail.tail.head;have hb7:Below w6.heap.size w6 w7:=(Below.refl _ _).drew.trans hb7';have hkp:=HKP.out _ hb7;obtain ⟨⟨u0,u1,u2,u3,u4,u5⟩,fz0,fz1,fz2,fz3,fz4,fz5⟩:=own_cells6 (n:=k) ((HBL.out.below HB6.out).below hb7).rowS HBL.out.tl (by rw [fillTo_len e (Nat.le_of_lt HKS.out)];exact HKS.out)))
       obtain ⟨TT,hTT⟩:∃ T,T=(Value.slice px qx kx,Value.slice py qy ky,Value.slice pz qz kz):=⟨_,rfl⟩
       have hB6s:w0.heap.size≤w6.heap.size:=Nat.le_trans HB.out.size HB6.out.size
       have hX:=(HBL.out.below HB6.out).slot hb7 (n:=k) (by rw [fillTo_len e (Nat.le_of_lt HKS.out)];exact HKS.out) (show OwnR w7 w6.heap.size w7.heap.size (slRs tEng.tI tEng.tE s (Value.slice px qx kx,Value.slice py qy ky,Value.slice pz qz kz)) from hR7) hB6s
       rw [HFN.out] at hX
       have t0:=(World.cell?_of_block (a:=⟨D,0,none⟩) (st6_heap w7 g k s (Value.slice px qx kx,Value.slice py qy ky,Value.slice pz qz kz) (fun e1=>HNE.out.2 e1))).trans hkp.2.1
       have hb67:Below w0.heap.size w0 (st6 w7 g k s (Value.slice px qx kx,Value.slice py qy ky,Value.slice pz qz kz)):=by
        have h1:=(HB.out.trans (HB6.out.mono HB.out.size)).trans (hb7.mono hB6s)
        unfold st6
        exact (((((h1.setCell (by exact HGB.out) _).setCell (by exact HGB.out) _).setCell (by exact HGB.out) _).setCell (by exact HGB.out) _).setCell (by exact HGB.out) _).setCell (by exact HGB.out) _
       clear hTT TT hkp hR7 hwi7 hwx7 hwy7 hb7' hb7 u0 u1 u2 u3 u4 u5 fz0 fz1 fz2 fz3 fz4 fz5 HCP HX6 hkd HKP
       simp only [st6] at hX t0 hb67
       generalize hw8:World.setCell _ _ _=w8 at hX t0 hb67 ⊢
       obtain ⟨ts8,hts8⟩:∃ t,t=ts.set k (Value.slice px qx kx,Value.slice py qy ky,Value.slice pz qz kz):=⟨_,rfl⟩
       rw [← hts8] at hX
       clear hw8 hts8
       obtain ⟨pq,nq,cq,rfl⟩:=slice_form hX.rowQ
       have HX:=Lib.hid hX
       have HB8:=Lib.hid hb67
       obtain ⟨stg8,hst8⟩:∃ x,x=s.stage:=⟨_,rfl⟩
       rw [← hst8] at t0 HQN
       clear hst8
       by_cases h2:stg8=2
       · have HQ:Hid (queTo e (k+1)=queTo e k):=Lib.hid (by rw [HQN.out,if_pos h2])
         subst h2
         clear hX hb67
         go_wp2_with fail
         go_roundw
         case rel=>exact ⟨k+1,_,ts8,by omega,by go_num,by rw [HQ.out];exact HX.out,HB8.out⟩
         case measure=>simp [intOf];omega
       · have HQ:Hid (queTo e (k+1)=queTo e k++[(k:Int)]):=Lib.hid (by rw [HQN.out,if_neg h2])
         have h2':¬ 2=stg8:=fun h=>h2 h.symm
         have c66:=hX.c66
         have hOQ:w8.ownsRow w0.heap.size 3 1 (.slice pq nq cq) (queTo e k).length ((queTo e k).map (Value.int .i64)):=hX.rowQ
         have hB8s:w0.heap.size≤w8.heap.size:=hb67.size
         have HQB:Hid (∀ q,(Value.slice pq nq cq).ownBlock=some q→¬ TouchV b vs q):=Lib.hid (fun q hq=>hX.off ⟨.slice pq nq cq,tEng.tI,1,(queTo e k).length,(queTo e k).map (Value.int .i64)⟩ (by simp [stRs]) q (by rw [owns_blk hX.rowQ];exact hq))
         have hb8b:Below w8.heap.size w8 (w8.alloc (.cells #[.int .i64 (k:Int)] 3)):=(Below.refl _ _).alloc (Nat.le_refl _) _
         have HX9:=Lib.hid (hX.below hb8b)
         have HB8B:=Lib.hid hb8b
         clear hX hb67 hb8b
         go_wp2_with (first | (at_builtin;refine wpList_append_lit (W:=w8) rfl _ _ 65 rfl w0.heap.size 3 3 (.int .i64 0) 1 8 1 Tryz.underlying65 infoInt rfl (by decide) (.slice pq nq cq) (queTo e k).length _ [.int .i64 (k:Int)] (by rfl) hOQ (by simp [Act.eval]) rfl (by intro u hu;simp at hu;rw [hu];rfl) (by decide) (by omega) (by decide) hB8s ?_;intro v' w9 ho9 hnn9 hg9 hloc9;obtain ⟨p9,n9,c9,rfl⟩:=slice_form ho9;have hbk9:=hg9.block b HX9.out.lt (fun e1=>HQB.out b e1.symm (.inl rfl));have d66:=(World.cell?_of_block (a:=⟨b,66,none⟩) hbk9).trans HX9.out.c66;have e66:=(World.frozen?_of_block (a:=⟨b,66,none⟩) hbk9).trans (HX9.out.frozen 66)))
         have HN:=Lib.hid (HX.out.push HB8B.out (x:=(k:Int)) ho9 hg9 (by rcases hloc9 with h | h;exact .inl h;exact .inr (by rw [h];simp)))
         have HN2:Hid (Below w0.heap.size w0 (w9.setCell ⟨b,66,none⟩ (.slice p9 n9 c9))):=Lib.hid (((HB8.out.alloc HB8.out.size _).grown hg9 (by simp;have:=HB8.out.size;omega) (fun q hq=>(hOQ.lt q hq).1)).setCell (by exact HBB.out) _)
         rw [← HQ.out] at HN
         generalize hw10:World.setCell _ _ _=w10 at HN HN2 ⊢
         clear hw10 ho9 hnn9 hg9 hloc9 hbk9 d66 e66 HX9 HB8B hOQ c66
         go_roundw
         case rel=>exact ⟨k+1,_,ts8,by omega,by go_num,HN.out,HN2.out⟩
         case measure=>simp [intOf];omega
     · obtain rfl:k=n4:=by omega
       have hX:=HBL.out
       rw [← HL4.out,fillTo_all] at hX
       have hS:=hX.fin HOK.out (engWf_ok HOK.out)
       have hmm:=HBW.out.size
       have HST:Hid (StAt wr b w.heap.size 132 tEng e):=Lib.hid (StAt.mono ⟨_,_,_,_,_,_,_,_,hS⟩ hmm)
       have HBF:Hid (Below w.heap.size w wr):=Lib.hid (HBW.out.trans (HB.out.mono hmm))
       have HBb:Hid (w.heap.size≤b):=Lib.hid (Nat.le_trans hmm HBB.out)
       clear hX hS hmm
       go_wp2_with fail
       go_ret2
       exact ⟨.inr ⟨HV.out,b,rfl,HBb.out,HST.out⟩,HBF.out⟩
end Go.Proofs.YtaaffpolmecicabGreat
/- The contract of the program's steppingEngine.canFinish. -/
namespace Go.Proofs.YtaaffpolmecicabGreat
open Go.RowKit
set_option linter.unusedVariables false
set_option linter.unusedSimpArgs false
theorem finCmp_impl (st tr:Int) (x y z:Value) (d:Bool) (w:World):Calls Tryz.prog 162 #[.agg #[.int .i64 st,.int .i64 tr,x,.bool d,y,z]] w fun e w'=>e = .returned (.bool (decide (900 < tr)))∧Below w.heap.size w w':=by
 have hB:=((Below.refl w.heap.size w).alloc (Nat.le_refl _) (.cells #[.int .i64 st,.int .i64 tr,x,.bool d,y,z] 75))
 go_enter Tryz.func162,Tryz.ntmps162
 go_wp2
 go_ret
 exact ⟨rfl,hB⟩
def lt900 (L:List Slt):Prop:=∀ k,k < L.length→(L.getD k noSlt).tries≤900
def IdxS (L:List Slt) (w:World) (e:Ending) (w':World):Prop :=
 ∃ z:Int,e = .returned (.int .i64 z)∧Below w.heap.size w w'∧((z = -1∧lt900 L)∨(0≤z∧¬ lt900 L))
set_option maxRecDepth 100000 in
set_option maxHeartbeats 4000000 in
theorem indexS_any (a:Option Addr) (n cap:Nat) (L:List Slt) (w:World) (h:RowSl w a n L) (hn:n≤4000000) :
  Calls Tryz.prog 185 #[.slice a n cap,.func (.func 162) #[] #[]] w (IdxS L w):=by
 have HL:=Lib.hid h.1
 have HR:=Lib.hid (fun W (hb:Below w.heap.size w W)=>h.below hb)
 clear h
 go_enter Tryz.func185,Tryz.ntmps185
 go_wp2
 go_loopw [8] (fun i wr=>∃ k:Nat,k≤n∧i = .int .i64 k∧Hid (∀ j,j < k→(L.getD j noSlt).tries≤900)∧Below w.heap.size w wr) (fun i _=>n - (intOf i).toNat)
 case atStart=>exact ⟨0,Nat.zero_le _,rfl,Lib.hid (fun j hj=>absurd hj (Nat.not_lt_zero j)),Below.refl _ _⟩
 case round =>
  obtain ⟨k,hk,rfl,HF,hb⟩:=hrel
  by_cases hlt:k < n
  · obtain ⟨g,off,rfl,s0,s1,⟨v2,s2,-⟩,s3,⟨v4,s4,-⟩,v5,s5,-⟩:=(HR.out wr hb).at k hlt
    obtain ⟨X,hX⟩:∃ X,X=L.getD k noSlt:=⟨_,rfl⟩
    have HX:=Lib.hid hX
    rw [← hX] at s0 s1 s3
    obtain ⟨st,hst⟩:∃ x,x=X.stage:=⟨_,rfl⟩
    obtain ⟨tr,htr⟩:∃ x,x=X.tries:=⟨_,rfl⟩
    obtain ⟨d,hd⟩:∃ x,x=X.res.done:=⟨_,rfl⟩
    rw [← hst] at s0
    rw [← htr] at s1
    rw [← hd] at s3
    have HT:=Lib.hid htr
    clear hX hst htr hd
    by_cases hq:900 < tr
    · have HQ:Hid (decide (900 < tr)=true):=Lib.hid (by simpa using hq)
      have HNO:Hid (¬ lt900 L):=Lib.hid (fun hh=>by
       have:=hh k (by rw [HL.out];exact hlt)
       rw [← HX.out,← HT.out] at this;omega)
      clear hq
      go_wp2_with (first | (go_at_call 162;refine (finCmp_impl st tr v2 v4 v5 d _).mono ?_;rintro e w' ⟨rfl,hb'⟩;rw [HQ.out]))
      go_ret
      exact ⟨_,rfl,hb.trans (hb'.mono hb.size),.inr ⟨by omega,HNO.out⟩⟩
    · have HQ:Hid (decide (900 < tr)=false):=Lib.hid (by simpa using hq)
      have HF2:Hid (∀ j,j < k+1→(L.getD j noSlt).tries≤900):=Lib.hid fun j hj=>by
       by_cases e:j=k
       · rw [e,← HX.out,← HT.out];omega
       · exact HF.out j (by omega)
      clear hq HF HX HT
      go_wp2_with (first | (go_at_call 162;refine (finCmp_impl st tr v2 v4 v5 d _).mono ?_;rintro e w' ⟨rfl,hb'⟩;rw [HQ.out]))
      go_roundw
      case rel=>exact ⟨k+1,by omega,by go_num,HF2,hb.trans (hb'.mono hb.size)⟩
      case measure=>simp [intOf];omega
  · obtain rfl:k=n:=by omega
    clear HR
    go_wp2
    go_ret
    exact ⟨_,rfl,hb,.inl ⟨rfl,fun j hj=>HF.out j (by rw [← HL.out];exact hj)⟩⟩
def FinB (L:List Slt) (w:World) (e:Ending) (w':World):Prop:=Below w.heap.size w w'∧((e = .returned (.bool true)∧¬ lt900 L)∨(e = .returned (.bool false)∧lt900 L))
set_option maxHeartbeats 4000000 in
theorem containsS_any (a:Option Addr) (n cap:Nat) (L:List Slt) (w:World) (h:RowSl w a n L) (hn:n≤4000000) :
  Calls Tryz.prog 161 #[.slice a n cap,.func (.func 162) #[] #[]] w (FinB L w):=by
 go_enter Tryz.func161,Tryz.ntmps161
 go_wp2_with fail
 refine (indexS_any a n cap L _ h hn).mono ?_;rintro e1 w1 ⟨z,rfl,hb1,hz⟩
 have HB:=Lib.hid hb1
 rcases hz with ⟨hz1,h2⟩ | ⟨hz1,h2⟩
 · subst hz1
   have H2:=Lib.hid h2
   clear hb1 h h2
   go_wp2_with fail
   go_ret
   exact ⟨HB.out,.inr ⟨rfl,H2.out⟩⟩
 · have H2:=Lib.hid h2
   have t0:decide (0≤z)=true:=decide_eq_true hz1
   clear hb1 h h2
   go_wp2_with fail
   go_ret
   exact ⟨HB.out,.inl ⟨rfl,H2.out⟩⟩
def CanF (e:Eng) (w:World) (en:Ending) (w':World):Prop:=Below w.heap.size w w'∧((en = .returned (.bool false)∧¬ lt900 e.slots)∨(en = .returned (.bool true)∧lt900 e.slots))
set_option maxHeartbeats 4000000 in
theorem canFinish_impl (G B:Nat) (T:TypeId) (e:Eng) (w:World) (h:StAt w G B T tEng e) (hok:EngOk e) :
  Calls Tryz.prog 109 #[.pointer (some ⟨G,0,none⟩)] w (CanF e w):=by
 obtain ⟨xL,xS,xQ,qv,ts,vs,Q,d,hst⟩:=h
 obtain ⟨aS,nS,cS,hxS,hrS,-⟩:=hst.slots
 subst hxS
 have c65:=hst.c65
 have HR:=Lib.hid hrS
 have hten:nS≤4000000:=by have h1:=hok.ten;have h2:=hrS.1;omega
 clear hst hok hrS
 go_enter Tryz.func109,Tryz.ntmps109
 go_wp2_with fail
 refine (containsS_any aS nS cS e.slots _ HR.out hten).mono ?_;rintro e1 w1 ⟨hb1,hor⟩
 have HB:=Lib.hid hb1
 clear c65 hb1
 rcases hor with ⟨rfl,h2⟩ | ⟨rfl,h2⟩
 · have H2:=Lib.hid h2
   clear h2
   go_wp2_with fail
   go_ret
   exact ⟨HB.out,.inl ⟨rfl,H2.out⟩⟩
 · have H2:=Lib.hid h2
   clear h2
   go_wp2_with fail
   go_ret
   exact ⟨HB.out,.inr ⟨rfl,H2.out⟩⟩
end Go.Proofs.YtaaffpolmecicabGreat

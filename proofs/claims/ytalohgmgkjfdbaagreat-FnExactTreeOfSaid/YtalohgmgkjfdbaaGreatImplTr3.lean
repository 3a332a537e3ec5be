/- The contract of the program's newTree (gen16/newtree.py). -/
import Derived.Test.YtalohgmgkjfdbaaGreatImplTr2
import Derived.Test.YtalohgmgkjfdbaaGreatBkI
import Derived.Test.YtalohgmgkjfdbaaGreatRegO
import Derived.Test.YtalohgmgkjfdbaaGreatTrM
import Derived.Test.YtalohgmgkjfdbaaGreatImplSer
namespace Go.Proofs.YtalohgmgkjfdbaaGreat
open Go.RowKit Go.Maps
set_option linter.unusedVariables false
set_option linter.unusedSimpArgs false
def NewIx (w:World) (tT:TreT) (t:Tre) (e:Ending) (w':World):Prop :=
 ∃ Z m v1 v2 v3 ts,e = .returned (.pointer (some ⟨Z,0,none⟩))∧TrIx w' w.heap.size Z m tT v1 v2 v3 t ts∧Below w.heap.size w w'
set_option maxRecDepth 100000 in
set_option maxHeartbeats 8000000 in
theorem newTree_impl (a:Option Addr) (n c:Nat) (S:List Ent) (w:World) (h:RowE w a n S) (hz:a=none→c=0) (hs:storeB S=true) (hn:n≤3000000) :
  Calls Tryz.prog 63 #[.slice a n c] w (NewIx w tTreP (treOfM S)):=by
 have HR:=Lib.hid h
 have HLS:=Lib.hid h.1
 have HWFE:=Lib.hid h.2.2.2
 clear h
 go_enter Tryz.func63,Tryz.ntmps63
 go_wp2_with fail
 refine (firstBlock_impl a n c S _ HR.out hz).mono ?_;rintro e w2 ⟨v2,rfl,ho2,hwa2,hwb2,hb2⟩
 obtain ⟨xa,xn,xc,rfl⟩:=slice_form ho2
 have HO2:=Lib.hid ho2
 have HB2:=Lib.hid hb2
 have HWA:=Lib.hid hwa2
 have HWB:=Lib.hid hwb2
 have HOK:Hid (blkB (firstM S)=true):=Lib.hid (firstM_ok hs)
 have HTO:Hid (treOfM S=⟨S,[firstM S],[-1]⟩):=Lib.hid (by unfold treOfM;rw [if_pos hs])
 obtain ⟨x,hx⟩:∃ x,x=firstM S:=⟨_,rfl⟩
 have HX:=Lib.hid hx
 rw [← hx] at HO2 HWA HWB HOK
 clear ho2 hb2 hwa2 hwb2
 rw [← hx]
 clear hx
 go_upto_region 2 with (fail)
 have HLA:Hid (x.acts.length≤10):=Lib.hid (actsB_true (blkB_true HOK.out).2.2.2.2.2).1
 have HRA:=Lib.hid (rowA_of_owns HO2.out (Nat.le_trans HLA.out (by omega)) HWA.out)
 have hb3:=(Below.refl w2.heap.size w2).alloc (Nat.le_refl _) (.cells #[.int .i64 x.bef,.int .i64 x.hgt,.int .i64 x.view,.slice xa xn xc,.int .i64 x.root,.int .i64 x.effs] 52)
 have hA3:=bkAt_new w2 52 (.int .i64 x.bef) (.int .i64 x.hgt) (.int .i64 x.view) (.slice xa xn xc) (.int .i64 x.root) (.int .i64 x.effs)
 obtain ⟨w3,hw3⟩:∃ w3,w3=w2.alloc (.cells #[.int .i64 x.bef,.int .i64 x.hgt,.int .i64 x.view,.slice xa xn xc,.int .i64 x.root,.int .i64 x.effs] 52):=⟨_,rfl⟩
 have HW3:=Lib.hid hw3
 rw [← hw3] at hb3 hA3
 clear hw3
 have HB23:=Lib.hid hb3
 have HA3:=Lib.hid (fun (W:World) (hb:Below w3.heap.size w3 W)=>hA3.below hb)
 have HB3:=Lib.hid (HB2.out.trans (hb3.mono HB2.out.size))
 have HSX2:Hid (w2.heap.size < w3.heap.size):=Lib.hid hA3.lt
 clear hb3 hA3
 obtain ⟨sx,hsx⟩:∃ sx,blkSumM x=sx:=⟨_,rfl⟩
 obtain ⟨FX,hFX⟩:∃ FX,FX=idxF [x]:=⟨_,rfl⟩
 have HSX:=Lib.hid hsx
 have HFE:=Lib.hid hFX
 have HFX:Hid (∀ s,FX s=updF (fun _=>none) sx 0 s):=Lib.hid (fun s=>by
  have h0:findL [] (blkSumM x) = -1:=rfl
  have:=idxF_snoc h0 s (b:=x)
  rw [hFX,show [x]=[]++[x] from rfl,this,hsx]
  unfold updF
  by_cases e:s=sx
  · rw [if_pos e,if_pos e];rfl
  · rw [if_neg e,if_neg e];rfl)
 have HWS:Hid ((Lit.int .i64 sx).wf=true):=Lib.hid (by have:=blkSumM_bd x;rw [hsx] at this;exact WalkArith.wf_i64 (by omega))
 clear hsx hFX
 have HCL:=Lib.hid (fun (W:World) (hb:Below w3.heap.size w3 W)=>clone_any a n c S W (HR.out.below (HB3.out.trans (hb.mono HB3.out.size))) hz hn)
 have HBS:=Lib.hid (fun (W:World) (hb:Below w3.heap.size w3 W)=>(by
  obtain ⟨a',c',e',r',-⟩:=HRA.out
  simp only [Value.slice.injEq] at e'
  obtain ⟨rfl,rfl,rfl⟩:=e'
  have:=blockSum_implV x xa x.acts.length xc W (r'.below (HB23.out.trans (hb.mono HB23.out.size)))
  rw [HSX.out] at this;exact this:Calls Tryz.prog 55 #[.agg #[.int .i64 x.bef,.int .i64 x.hgt,.int .i64 x.view,.slice xa xn xc,.int .i64 x.root,.int .i64 x.effs]] W (IntB sx W)))
 unfold Copy at HCL
 unfold IntB at HBS
 rw [← HW3.out]
 clear HW3 HRA HR
 refine wp_region_light (by kernel_rfl) (fun lz fz wz=>Vals [(0,6,(.slice a n c)),(2,8,(.agg #[.int .i64 x.bef,.int .i64 x.hgt,.int .i64 x.view,.slice xa xn xc,.int .i64 x.root,.int .i64 x.effs])),(7,13,(.agg #[.int .i64 x.bef,.int .i64 x.hgt,.int .i64 x.view,.slice xa xn xc,.int .i64 x.root,.int .i64 x.effs])),(8,14,(.int .i64 sx))] lz fz∧Deps2 [(⟨5,11,[(1,7),(3,9),(4,10)],fun f=>.agg #[f 7,f 9,f 10],fun f g h=>by simp at h;simp [h]⟩:DepT2),(⟨10,15,[(6,12)],fun f=>f 12,fun f g h=>by simp at h;simp [h]⟩:DepT2),(⟨11,16,[(1,7),(3,9),(4,10),(6,12)],fun f=>.agg #[f 7,f 9,f 10,f 12],fun f g h=>by simp at h;simp [h]⟩:DepT2),(⟨13,2,[(12,17)],fun f=>f 17,fun f g h=>by simp at h;simp [h]⟩:DepT2)] lz fz∧ObJ w3 [(⟨1,7,.rowB w3.heap.size 81 2 S.length (flatE S)⟩:ObT),(⟨3,9,.rowB w3.heap.size 52 6 1 [.int .i64 x.bef,.int .i64 x.hgt,.int .i64 x.view,.slice xa xn xc,.int .i64 x.root,.int .i64 x.effs]⟩:ObT),(⟨4,10,.rowB w3.heap.size 3 1 1 [.int .i64 (-1)]⟩:ObT),(⟨6,12,.someMap⟩:ObT)] lz fz wz∧MapJ 6 9 12 FX lz fz wz∧BoxJ w3 12 17 7 9 10 12 [1,3,4,6] lz fz wz) 18 rfl [6,7,8,9,10,11,12,13,14,15,16,17,2] (by kernel_rfl) (by kernel_rfl) (by kernel_rfl) (fun f=>⟨Vals.nothing _ f,Deps2.nothing _ f,ObJ.nothing _ _ f,MapJ.nothing _ _ _ _ f _,BoxJ.nothing _ _ _ _ _ _ _ _ f _⟩) ?_ ?_
 · intro i hi
   rcases (by have:i < 14:=hi;omega:i=0∨i=1∨i=2∨i=3∨i=4∨i=5∨i=6∨i=7∨i=8∨i=9∨i=10∨i=11∨i=12∨i=13) with rfl | rfl | rfl | rfl | rfl | rfl | rfl | rfl | rfl | rfl | rfl | rfl | rfl | rfl
   all_goals (clear hi;intro o ho lz fz w' A ⟨hv,hd,hq,hm,hx⟩ hli ha hA K hK;obtain rfl:=Option.some.inj ho;clear ho)
   · have g0:=slot_out hA 0 _ (by decide) (by decide) rfl
     simp only [List.getD_cons_succ,List.getD_cons_zero] at g0
     have gg0:=slot_get g0
     rw [if_pos (by rfl)]
     have hF:=hK (.slice a n c) w' ⟨hv.step 0 6 _ (by simp),hd.step 0 6 _ hli (by simp [allR2]),hq.still 0 (some 6) _ (Below.refl _ _) (by simp),hm.still 0 (some 6) _ (Below.refl _ _) (by decide) (by decide) (by decide),hx.still 0 (some 6) _ (Below.refl _ _) hli (by decide) (by decide) (.inr (by decide))⟩
     clear hv hd hq hm hx ha hK hA hli
     go_simp
     exact hF
   · have g6:=slot_in hA 6 (by decide) (by decide) (hv.at 0 rfl (ha 0 (by simp [aftersOf,Region.binds])))
     have gg6:=slot_get g6
     rw [if_pos (by rfl)]
     have hh:=HCL.out w' hq.below
     clear hA
     go_simp
     refine hh.mono ?_
     rintro e9 w9 ⟨v9,rfl,ho9,hb9⟩
     exact hK v9 w9 ⟨hv.step 1 7 _ (by simp),hd.step 1 7 _ hli (by simp [allR2]),hq.new 1 7 v9 hb9 (fun b hb=>by rw [owns_blk ho9] at hb;exact (ho9.lt b hb).1) (by simp;exact owns_mono ho9 hq.below.size),hm.still 1 (some 7) _ hb9 (by decide) (by decide) (by decide),hx.still 1 (some 7) _ hb9 hli (by decide) (by decide) (.inl (by decide))⟩
   · have g3:=slot_out hA 3 _ (by decide) (by decide) rfl
     simp only [List.getD_cons_succ,List.getD_cons_zero] at g3
     obtain ⟨kx0,kx1,kx2,kx3,kx4,kx5,-⟩:=HA3.out w' hq.below
     have gg3:=slot_get g3
     rw [if_pos (by rfl)]
     have hF:=hK (.agg #[.int .i64 x.bef,.int .i64 x.hgt,.int .i64 x.view,.slice xa xn xc,.int .i64 x.root,.int .i64 x.effs]) w' ⟨hv.step 2 8 _ (by simp),hd.step 2 8 _ hli (by simp [allR2]),hq.still 2 (some 8) _ (Below.refl _ _) (by simp),hm.still 2 (some 8) _ (Below.refl _ _) (by decide) (by decide) (by decide),hx.still 2 (some 8) _ (Below.refl _ _) hli (by decide) (by decide) (.inr (by decide))⟩
     clear hv hd hq hm hx ha hK hA hli
     go_simp
     exact hF
   · have g8:=slot_in hA 8 (by decide) (by decide) (hv.at 1 rfl (ha 2 (by simp [aftersOf,Region.binds])))
     have gg8:=slot_get g8
     rw [if_pos (by rfl)]
     have ho9:=(own_lit (w:=w') (B:=w'.heap.size) 52 6 #[.int .i64 x.bef,.int .i64 x.hgt,.int .i64 x.view,.slice xa xn xc,.int .i64 x.root,.int .i64 x.effs] 1 (Nat.le_refl _) (by unfold maxLen;omega) rfl).1
     have hb9:=(Below.refl w'.heap.size w').alloc (Nat.le_refl _) (.cells #[.int .i64 x.bef,.int .i64 x.hgt,.int .i64 x.view,.slice xa xn xc,.int .i64 x.root,.int .i64 x.effs] 52)
     have hF:=hK (.slice (some ⟨w'.heap.size,0,none⟩) 1 1) (w'.alloc (.cells #[.int .i64 x.bef,.int .i64 x.hgt,.int .i64 x.view,.slice xa xn xc,.int .i64 x.root,.int .i64 x.effs] 52)) ⟨hv.step 3 9 _ (by simp),hd.step 3 9 _ hli (by simp [allR2]),hq.new 3 9 _ hb9 (fun b hb=>by simp [blk] at hb;omega) (by simp;exact owns_mono ho9 hq.below.size),hm.still 3 (some 9) _ hb9 (by decide) (by decide) (by decide),hx.still 3 (some 9) _ hb9 hli (by decide) (by decide) (.inl (by decide))⟩
     clear hv hd hq hm hx ha hK hA hli ho9 hb9
     go_simp
     exact hF
   · rw [if_pos (by rfl)]
     have ho9:=(own_lit (w:=w') (B:=w'.heap.size) 3 1 #[.int .i64 (-1)] 1 (Nat.le_refl _) (by unfold maxLen;omega) rfl).1
     have hb9:=(Below.refl w'.heap.size w').alloc (Nat.le_refl _) (.cells #[.int .i64 (-1)] 3)
     have hF:=hK (.slice (some ⟨w'.heap.size,0,none⟩) 1 1) (w'.alloc (.cells #[.int .i64 (-1)] 3)) ⟨hv.step 4 10 _ (by simp),hd.step 4 10 _ hli (by simp [allR2]),hq.new 4 10 _ hb9 (fun b hb=>by simp [blk] at hb;omega) (by simp;exact owns_mono ho9 hq.below.size),hm.still 4 (some 10) _ hb9 (by decide) (by decide) (by decide),hx.still 4 (some 10) _ hb9 hli (by decide) (by decide) (.inl (by decide))⟩
     clear hv hd hq hm hx ha hK hA hli ho9 hb9
     go_simp
     exact hF
   · have g7:A.tmps.getD 7 undef=fz 7:=slot_in hA 7 (by decide) (by decide) rfl
     have g9:A.tmps.getD 9 undef=fz 9:=slot_in hA 9 (by decide) (by decide) rfl
     have g10:A.tmps.getD 10 undef=fz 10:=slot_in hA 10 (by decide) (by decide) rfl
     have gg7:=slot_get g7
     have gg9:=slot_get g9
     have gg10:=slot_get g10
     rw [if_pos (by rfl)]
     have o7:=(hq.own (⟨1,7,.rowB w3.heap.size 81 2 S.length (flatE S)⟩:ObT) (by simp) (ha 1 (by simp [aftersOf,Region.binds]))).1
     have o9:=(hq.own (⟨3,9,.rowB w3.heap.size 52 6 1 [.int .i64 x.bef,.int .i64 x.hgt,.int .i64 x.view,.slice xa xn xc,.int .i64 x.root,.int .i64 x.effs]⟩:ObT) (by simp) (ha 3 (by simp [aftersOf,Region.binds]))).1
     have o10:=(hq.own (⟨4,10,.rowB w3.heap.size 3 1 1 [.int .i64 (-1)]⟩:ObT) (by simp) (ha 4 (by simp [aftersOf,Region.binds]))).1
     obtain ⟨p7,q7,k7,e7⟩:=slice_form o7
     obtain ⟨p9,q9,k9,e9⟩:=slice_form o9
     obtain ⟨p10,q10,k10,e10⟩:=slice_form o10
     simp only at e7 e9 e10
     have hF:=hK (.agg #[fz 7,fz 9,fz 10]) w' ⟨hv.step 5 11 _ (by simp),hd.step 5 11 _ hli (by simp [allR2,ha 1 (by simp [aftersOf,Region.binds]),ha 3 (by simp [aftersOf,Region.binds]),ha 4 (by simp [aftersOf,Region.binds])]),hq.still 5 (some 11) _ (Below.refl _ _) (by simp),hm.still 5 (some 11) _ (Below.refl _ _) (by decide) (by decide) (by decide),hx.still 5 (some 11) _ (Below.refl _ _) hli (by decide) (by decide) (.inr (by decide))⟩
     rw [e7,e9,e10] at hF
     rw [e7] at g7 gg7
     rw [e9] at g9 gg9
     rw [e10] at g10 gg10
     clear hv hd hq hm hx ha hK hA hli o7 o9 o10
     go_simp
     exact hF
   · rw [if_pos (by rfl)]
     have hb9:=(Below.refl w'.heap.size w').alloc (Nat.le_refl _) (.map #[] 0)
     have hmm:=run_makeMap 84 (P:=Tryz.prog) w'
     have hM:=MapF.made w'
     have hF:=hK (.map (some w'.heap.size)) (w'.alloc (.map #[] 0)) ⟨hv.step 6 12 _ (by simp),hd.step 6 12 _ hli (by simp [allR2]),hq.new 6 12 _ hb9 (fun b hb=>by simp [blk] at hb;omega) (by simp;exact ⟨w'.heap.size,rfl,by simp,0,_,hM⟩),hm.make w'.heap.size hM (by decide) hli,hx.still 6 (some 12) _ hb9 hli (by decide) (by decide) (.inl (by decide))⟩
     clear hv hd hq hm hx ha hK hA hli hb9 hM
     go_simp
     exact hF
   · have g3:=slot_out hA 3 _ (by decide) (by decide) rfl
     simp only [List.getD_cons_succ,List.getD_cons_zero] at g3
     obtain ⟨kx0,kx1,kx2,kx3,kx4,kx5,-⟩:=HA3.out w' hq.below
     have gg3:=slot_get g3
     rw [if_pos (by rfl)]
     have hF:=hK (.agg #[.int .i64 x.bef,.int .i64 x.hgt,.int .i64 x.view,.slice xa xn xc,.int .i64 x.root,.int .i64 x.effs]) w' ⟨hv.step 7 13 _ (by simp),hd.step 7 13 _ hli (by simp [allR2]),hq.still 7 (some 13) _ (Below.refl _ _) (by simp),hm.still 7 (some 13) _ (Below.refl _ _) (by decide) (by decide) (by decide),hx.still 7 (some 13) _ (Below.refl _ _) hli (by decide) (by decide) (.inr (by decide))⟩
     clear hv hd hq hm hx ha hK hA hli
     go_simp
     exact hF
   · have g13:=slot_in hA 13 (by decide) (by decide) (hv.at 2 rfl (ha 7 (by simp [aftersOf,Region.binds])))
     have gg13:=slot_get g13
     rw [if_pos (by rfl)]
     have hh:=HBS.out w' hq.below
     clear hA
     go_simp
     refine hh.mono ?_
     rintro e9 w9 ⟨rfl,hb9⟩
     exact hK _ w9 ⟨hv.step 8 14 _ (by simp),hd.step 8 14 _ hli (by simp [allR2]),hq.still 8 (some 14) _ hb9 (by simp),hm.still 8 (some 14) _ hb9 (by decide) (by decide) (by decide),hx.still 8 (some 14) _ hb9 hli (by decide) (by decide) (.inr (by decide))⟩
   · have g12:A.tmps.getD 12 undef=fz 12:=slot_in hA 12 (by decide) (by decide) rfl
     have g14:=slot_in hA 14 (by decide) (by decide) (hv.at 3 rfl (ha 8 (by simp [aftersOf,Region.binds])))
     have gg12:=slot_get g12
     have gg14:=slot_get g14
     rw [if_pos (by rfl)]
     have h6:=ha 6 (by simp [aftersOf,Region.binds])
     obtain ⟨m,em,hM0⟩:=hm.1 h6
     rw [hli] at hM0
     simp only [Bool.false_eq_true,if_false] at hM0
     obtain ⟨w9,hrun,hM9,hg9⟩:=hM0.updRun (by omega) sx 0 HWS.out (by decide)
     have hF:=hK undef w9 ⟨hv.stepN 9 _ (by simp),hd.stepN 9 _ (by simp),hq.turn 9 _ m hg9 (⟨6,12,.someMap⟩:ObT) (by simp) (ha 6 (by simp [aftersOf,Region.binds])) (by simp only;rw [em];rfl) (by simp;exact ⟨m,em,hM9.lt,_,_,hM9⟩) (by simp),MapJ.write _ m em (hM9.imp HFX.out) h6,hx.turn 9 _ m hg9 (by decide) (by rw [em];rfl)⟩
     rw [em] at g12 gg12
     clear hv hd hq hm hx ha hK hA hli hM9 hg9 hM0 h6
     go_simp
     exact hF
   · have g12:A.tmps.getD 12 undef=fz 12:=slot_in hA 12 (by decide) (by decide) rfl
     have gg12:=slot_get g12
     rw [if_pos (by rfl)]
     have hF:=hK (fz 12) w' ⟨hv.step 10 15 _ (by simp),hd.step 10 15 _ hli (by simp [allR2,ha 6 (by simp [aftersOf,Region.binds])]),hq.still 10 (some 15) _ (Below.refl _ _) (by simp),hm.still 10 (some 15) _ (Below.refl _ _) (by decide) (by decide) (by decide),hx.still 10 (some 15) _ (Below.refl _ _) hli (by decide) (by decide) (.inr (by decide))⟩
     clear hv hd hq hm hx ha hK hA hli
     go_simp
     exact hF
   · have hd11:=hd (⟨5,11,[(1,7),(3,9),(4,10)],fun f=>.agg #[f 7,f 9,f 10],fun f g h=>by simp at h;simp [h]⟩:DepT2) (by simp) (ha 5 (by simp [aftersOf,Region.binds]))
     simp only at hd11
     have hd15:=hd (⟨10,15,[(6,12)],fun f=>f 12,fun f g h=>by simp at h;simp [h]⟩:DepT2) (by simp) (ha 10 (by simp [aftersOf,Region.binds]))
     simp only at hd15
     have g11:A.tmps.getD 11 undef=fz 11:=slot_in hA 11 (by decide) (by decide) rfl
     have g15:A.tmps.getD 15 undef=fz 15:=slot_in hA 15 (by decide) (by decide) rfl
     have r5:=(hd (⟨5,11,[(1,7),(3,9),(4,10)],fun f=>.agg #[f 7,f 9,f 10],fun f g h=>by simp at h;simp [h]⟩:DepT2) (by simp) (ha 5 (by simp [aftersOf,Region.binds]))).1
     have r10:=(hd (⟨10,15,[(6,12)],fun f=>f 12,fun f g h=>by simp at h;simp [h]⟩:DepT2) (by simp) (ha 10 (by simp [aftersOf,Region.binds]))).1
     have l1:lz 1=true:=r5 (1,7) (by simp)
     have l3:lz 3=true:=r5 (3,9) (by simp)
     have l4:lz 4=true:=r5 (4,10) (by simp)
     have l6:lz 6=true:=r10 (6,12) (by simp)
     have hd11b:=hd11.2
     have hd15b:=hd15.2
     have o7:=(hq.own (⟨1,7,.rowB w3.heap.size 81 2 S.length (flatE S)⟩:ObT) (by simp) l1).1
     have o9:=(hq.own (⟨3,9,.rowB w3.heap.size 52 6 1 [.int .i64 x.bef,.int .i64 x.hgt,.int .i64 x.view,.slice xa xn xc,.int .i64 x.root,.int .i64 x.effs]⟩:ObT) (by simp) l3).1
     have o10:=(hq.own (⟨4,10,.rowB w3.heap.size 3 1 1 [.int .i64 (-1)]⟩:ObT) (by simp) l4).1
     obtain ⟨m,em,-⟩:=hm.1 l6
     obtain ⟨p7,q7,k7,e7⟩:=slice_form o7
     obtain ⟨p9,q9,k9,e9⟩:=slice_form o9
     obtain ⟨p10,q10,k10,e10⟩:=slice_form o10
     simp only at e7 e9 e10
     rw [hd11b,e7,e9,e10] at g11
     rw [hd15b,em] at g15
     have gg11:=slot_get g11
     have gg15:=slot_get g15
     rw [if_pos (by rfl)]
     have hF:=hK (.agg #[fz 7,fz 9,fz 10,fz 12]) w' ⟨hv.step 11 16 _ (by simp),hd.step 11 16 _ hli (by simp [allR2,l1,l3,l4,l6]),hq.still 11 (some 16) _ (Below.refl _ _) (by simp),hm.still 11 (some 16) _ (Below.refl _ _) (by decide) (by decide) (by decide),hx.still 11 (some 16) _ (Below.refl _ _) hli (by decide) (by decide) (.inr (by decide))⟩
     rw [e7,e9,e10,em] at hF
     clear hv hd hq hm hx ha hK hA hli o7 o9 o10 r5 r10 hd11 hd15
     go_simp
     exact hF
   · have hd16:=hd (⟨11,16,[(1,7),(3,9),(4,10),(6,12)],fun f=>.agg #[f 7,f 9,f 10,f 12],fun f g h=>by simp at h;simp [h]⟩:DepT2) (by simp) (ha 11 (by simp [aftersOf,Region.binds]))
     have g16:A.tmps.getD 16 undef=fz 16:=slot_in hA 16 (by decide) (by decide) rfl
     have l1:lz 1=true:=hd16.1 (1,7) (by simp)
     have l3:lz 3=true:=hd16.1 (3,9) (by simp)
     have l4:lz 4=true:=hd16.1 (4,10) (by simp)
     have l6:lz 6=true:=hd16.1 (6,12) (by simp)
     have hd16b:=hd16.2
     simp only at hd16b
     have n7:blk (fz 7)≠some w'.heap.size:=fun e=>by have:=hq.lt (t:=(⟨1,7,.rowB w3.heap.size 81 2 S.length (flatE S)⟩:ObT)) (by simp) l1 e;omega
     have n9:blk (fz 9)≠some w'.heap.size:=fun e=>by have:=hq.lt (t:=(⟨3,9,.rowB w3.heap.size 52 6 1 [.int .i64 x.bef,.int .i64 x.hgt,.int .i64 x.view,.slice xa xn xc,.int .i64 x.root,.int .i64 x.effs]⟩:ObT)) (by simp) l3 e;omega
     have n10:blk (fz 10)≠some w'.heap.size:=fun e=>by have:=hq.lt (t:=(⟨4,10,.rowB w3.heap.size 3 1 1 [.int .i64 (-1)]⟩:ObT)) (by simp) l4 e;omega
     have n12:blk (fz 12)≠some w'.heap.size:=fun e=>by have:=hq.lt (t:=(⟨6,12,.someMap⟩:ObT)) (by simp) l6 e;omega
     rw [hd16b] at g16
     have gg16:=slot_get g16
     rw [if_pos (by rfl)]
     have hb9:=(Below.refl w'.heap.size w').alloc (Nat.le_refl _) (.cells #[fz 7,fz 9,fz 10,fz 12] 86)
     have hF:=hK (.pointer (some ⟨w'.heap.size,0,none⟩)) (w'.alloc (.cells #[fz 7,fz 9,fz 10,fz 12] 86)) ⟨hv.step 12 17 _ (by simp),hd.step 12 17 _ hli (by simp [allR2]),hq.still 12 (some 17) _ hb9 (by simp),hm.still 12 (some 17) _ hb9 (by decide) (by decide) (by decide),BoxJ.make w'.heap.size hq.below.size (ixAt_new w' _ _ _ _ _) n7 n9 n10 n12 (by simp [l1,l3,l4,l6]) (by decide) (by decide) (by decide) (by decide)⟩
     clear hv hd hq hm hx ha hK hA hli hb9 hd16
     go_simp
     exact hF
   · have g17:A.tmps.getD 17 undef=fz 17:=slot_in hA 17 (by decide) (by decide) rfl
     have gg17:=slot_get g17
     rw [if_pos (by rfl)]
     have hF:=hK (fz 17) w' ⟨hv.step 13 2 _ (by simp),hd.step 13 2 _ hli (by simp [allR2,ha 12 (by simp [aftersOf,Region.binds])]),hq.still 13 (some 2) _ (Below.refl _ _) (by simp),hm.still 13 (some 2) _ (Below.refl _ _) (by decide) (by decide) (by decide),hx.still 13 (some 2) _ (Below.refl _ _) hli (by decide) (by decide) (.inr (by decide))⟩
     clear hv hd hq hm hx ha hK hA hli
     go_simp
     exact hF
 · intro lz fz w6 hall ⟨hv,hd,hq,hm,hx⟩
   have l:=fun k (hk:k < 14)=>hall k hk
   have h2:=(hd (⟨13,2,[(12,17)],fun f=>f 17,fun f g h=>by simp at h;simp [h]⟩:DepT2) (by simp) (l 13 (by decide))).2
   simp only at h2
   obtain ⟨-,Z,e17,hZ3,hE,n7,n9,n10,n12⟩:=hx (l 12 (by decide))
   obtain ⟨m,e12,hM⟩:=hm.1 (l 6 (by decide))
   rw [l 9 (by decide)] at hM
   simp only [if_true] at hM
   have o7:=hq.own (⟨1,7,.rowB w3.heap.size 81 2 S.length (flatE S)⟩:ObT) (by simp) (l 1 (by decide))
   have o9:=hq.own (⟨3,9,.rowB w3.heap.size 52 6 1 [.int .i64 x.bef,.int .i64 x.hgt,.int .i64 x.view,.slice xa xn xc,.int .i64 x.root,.int .i64 x.effs]⟩:ObT) (by simp) (l 3 (by decide))
   have o10:=hq.own (⟨4,10,.rowB w3.heap.size 3 1 1 [.int .i64 (-1)]⟩:ObT) (by simp) (l 4 (by decide))
   have o12:=hq.own (⟨6,12,.someMap⟩:ObT) (by simp) (l 6 (by decide))
   have a79:=hq.apart (⟨1,7,.rowB w3.heap.size 81 2 S.length (flatE S)⟩:ObT) (by simp) (⟨3,9,.rowB w3.heap.size 52 6 1 [.int .i64 x.bef,.int .i64 x.hgt,.int .i64 x.view,.slice xa xn xc,.int .i64 x.root,.int .i64 x.effs]⟩:ObT) (by simp) (by simp) (l 1 (by decide)) (l 3 (by decide))
   have a710:=hq.apart (⟨1,7,.rowB w3.heap.size 81 2 S.length (flatE S)⟩:ObT) (by simp) (⟨4,10,.rowB w3.heap.size 3 1 1 [.int .i64 (-1)]⟩:ObT) (by simp) (by simp) (l 1 (by decide)) (l 4 (by decide))
   have a109:=hq.apart (⟨4,10,.rowB w3.heap.size 3 1 1 [.int .i64 (-1)]⟩:ObT) (by simp) (⟨3,9,.rowB w3.heap.size 52 6 1 [.int .i64 x.bef,.int .i64 x.hgt,.int .i64 x.view,.slice xa xn xc,.int .i64 x.root,.int .i64 x.effs]⟩:ObT) (by simp) (by simp) (l 4 (by decide)) (l 3 (by decide))
   have m7:=hq.apart (⟨6,12,.someMap⟩:ObT) (by simp) (⟨1,7,.rowB w3.heap.size 81 2 S.length (flatE S)⟩:ObT) (by simp) (by simp) (l 6 (by decide)) (l 1 (by decide)) m
   have m9:=hq.apart (⟨6,12,.someMap⟩:ObT) (by simp) (⟨3,9,.rowB w3.heap.size 52 6 1 [.int .i64 x.bef,.int .i64 x.hgt,.int .i64 x.view,.slice xa xn xc,.int .i64 x.root,.int .i64 x.effs]⟩:ObT) (by simp) (by simp) (l 6 (by decide)) (l 3 (by decide)) m
   have m10:=hq.apart (⟨6,12,.someMap⟩:ObT) (by simp) (⟨4,10,.rowB w3.heap.size 3 1 1 [.int .i64 (-1)]⟩:ObT) (by simp) (by simp) (l 6 (by decide)) (l 4 (by decide)) m
   simp only at o7 o9 o10 o12 a79 a710 a109 m7 m9 m10
   rw [e12] at o12 m7 m9 m10 hE n12
   have hmb:blk (.map (some m))=some m:=rfl
   have hbB:=hq.below
   have hB6:=HB3.out.trans (hbB.mono HB3.out.size)
   have hmw:=o12.2 m hmb
   have hs3:=HSX2.out
   have hs2:=HB2.out.size
   have ox:=owns_below HO2.out (HB23.out.trans (hbB.mono HB23.out.size))
   have nx:∀ p,blk (.slice xa xn xc)=some p→p < w2.heap.size:=fun p hp=>by rw [owns_blk HO2.out] at hp;exact (HO2.out.lt p hp).2
   have ge:∀ {e:TypeId} {sz k:Nat} {v:Value} {cs:List Value},w6.ownsRow w3.heap.size e sz v k cs→∀ p,blk v=some p→w3.heap.size≤p:=fun ho p hp=>by rw [owns_blk ho] at hp;exact (ho.lt p hp).1
   have hOR:OwnR w6 w.heap.size w6.heap.size (treRs tTreP (fz 7) (fz 9) (fz 10) ⟨S,[x],[-1]⟩ [.slice xa xn xc]):=by
    have e1:treRs tTreP (fz 7) (fz 9) (fz 10) ⟨S,[x],[-1]⟩ [.slice xa xn xc]=[⟨fz 7,81,2,S.length,flatE S⟩,⟨fz 10,3,1,1,[.int .i64 (-1)]⟩,⟨fz 9,52,6,1,[.int .i64 x.bef,.int .i64 x.hgt,.int .i64 x.view,.slice xa xn xc,.int .i64 x.root,.int .i64 x.effs]⟩,⟨.slice xa xn xc,112,4,x.acts.length,flatA x.acts⟩]:=rfl
    rw [e1]
    have hown:∀ r∈([⟨fz 7,81,2,S.length,flatE S⟩,⟨fz 10,3,1,1,[.int .i64 (-1)]⟩,⟨fz 9,52,6,1,[.int .i64 x.bef,.int .i64 x.hgt,.int .i64 x.view,.slice xa xn xc,.int .i64 x.root,.int .i64 x.effs]⟩,⟨.slice xa xn xc,112,4,x.acts.length,flatA x.acts⟩]:List Rw),w6.ownsRow w.heap.size r.e r.size r.v r.n r.cs:=by
     intro r hr
     simp only [List.mem_cons,List.not_mem_nil,or_false] at hr
     rcases hr with rfl | rfl | rfl | rfl
     · exact owns_mono o7.1 (by omega)
     · exact owns_mono o10.1 (by omega)
     · exact owns_mono o9.1 (by omega)
     · exact ox
    refine ⟨hown,fun r hr b hb=>?_,?_⟩
    · have h1:=hown r hr
      rw [owns_blk h1] at hb;exact (h1.lt b hb).2
    · simp only [List.pairwise_cons,List.mem_cons,List.not_mem_nil,or_false,List.Pairwise.nil,and_true]
      refine ⟨fun r hr p hp hp2=>?_,fun r hr p hp hp2=>?_,fun r hr p hp hp2=>?_,fun r hr=>hr.elim⟩
      · rcases hr with rfl | rfl | rfl
        · exact a710 p hp hp2
        · exact a79 p hp hp2
        · have:=ge o7.1 p hp;have:=nx p hp2;omega
      · rcases hr with rfl | rfl
        · exact a109 p hp hp2
        · have:=ge o10.1 p hp;have:=nx p hp2;omega
      · subst hr
        have:=ge o9.1 p hp;have:=nx p hp2;omega
   have hoff:∀ Y,w3.heap.size≤Y→blk (fz 7)≠some Y→blk (fz 10)≠some Y→blk (fz 9)≠some Y→∀ r∈treRs tTreP (fz 7) (fz 9) (fz 10) ⟨S,[x],[-1]⟩ [.slice xa xn xc],blk r.v≠some Y:=by
    intro Y hY h7 h10 h9 r hr
    have e1:treRs tTreP (fz 7) (fz 9) (fz 10) ⟨S,[x],[-1]⟩ [.slice xa xn xc]=[⟨fz 7,81,2,S.length,flatE S⟩,⟨fz 10,3,1,1,[.int .i64 (-1)]⟩,⟨fz 9,52,6,1,[.int .i64 x.bef,.int .i64 x.hgt,.int .i64 x.view,.slice xa xn xc,.int .i64 x.root,.int .i64 x.effs]⟩,⟨.slice xa xn xc,112,4,x.acts.length,flatA x.acts⟩]:=rfl
    rw [e1] at hr
    simp only [List.mem_cons,List.not_mem_nil,or_false] at hr
    rcases hr with rfl | rfl | rfl | rfl
    · exact h7
    · exact h10
    · exact h9
    · intro e;have:=nx Y e;omega
   have hTW:TreWf ⟨S,[x],[-1]⟩:=⟨HWFE.out,fun y hy=>(by simp at hy;subst hy;rfl),⟨fun y hy=>(by simp at hy;subst hy;exact ⟨HWB.out,HWA.out,Nat.le_trans HLA.out (by omega)⟩),by simp⟩,by show S.length≤_;rw [HLS.out];omega,by simp⟩
   have hfin:TrIx w6 w.heap.size Z m tTreP (fz 7) (fz 9) (fz 10) ⟨S,[x],[-1]⟩ [.slice xa xn xc] :=
    ⟨hE,hOR,by rw [HFE.out] at hM;exact hM,rfl,hTW,by omega,by omega,fun e=>n12 (by rw [hmb,e]),hoff Z hZ3 n7 n10 n9,hoff m hmw (m7 hmb) (m10 hmb) (m9 hmb)⟩
   have HFIN:=Lib.hid hfin
   have HB6:=Lib.hid hB6
   have hp2:fz 2 = .pointer (some ⟨Z,0,none⟩):=by rw [h2,e17]
   clear hfin hB6 hTW hoff hOR ge nx ox o7 o9 o10 o12 a79 a710 a109 m7 m9 m10 hE n7 n9 n10 n12 hM h2 e17 e12 hv hd hq hm hx l hall hbB hmw hmb hZ3
   simp only [mixF,List.contains_cons,List.contains_nil]
   go_simp
   go_wp2_with fail
   go_ret
   exact ⟨Z,m,_,_,_,_,rfl,by rw [HTO.out,← HX.out];exact HFIN.out,HB6.out⟩
end Go.Proofs.YtalohgmgkjfdbaaGreat

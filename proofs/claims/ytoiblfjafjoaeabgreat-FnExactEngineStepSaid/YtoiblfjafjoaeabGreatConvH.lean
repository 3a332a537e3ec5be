/- Texts of ours that stand together: ConvEng3, ConvEng4, ConvEng5 -/
import Derived.Test.YtoiblfjafjoaeabGreatConvG
import Derived.Test.YtoiblfjafjoaeabGreatCopG
import Derived.Test.YtoiblfjafjoaeabGreatExLib
import Derived.Test.YtoiblfjafjoaeabGreatConvX
import Derived.Lib.AppendZeros
import Derived.Test.YtoiblfjafjoaeabGreatSpecE0
/- The contracts of the laws' own helpers over slots and engines: copies. -/
namespace Go.Proofs.YtoiblfjafjoaeabGreat
open Go.RowKit
set_option linter.unusedVariables false
set_option maxRecDepth 100000 in
set_option maxHeartbeats 4000000 in
theorem toSlot_any (s:Slt) (n n1 n2:Nat) (a a1 a2:Option Addr) (c c1 c2:Nat) (w:World) (h:RowI w a n s.from_) (hf:RowF w a1 n1 a2 n2 s.res) (hn:n≤1048576) (hn1:n1≤1048576) (hn2:n2≤1048576) :
  Calls Tryz.prog 91 #[slV s (.slice a n c) (.slice a1 n1 c1) (.slice a2 n2 c2)] w (NewSl w 3 109 s):=by
 obtain ⟨st,tr,fr,rs⟩:=s
 obtain ⟨dn,X,Y⟩:=rs
 simp only [slV] at h hf ⊢
 have HFR:=Lib.hid hf
 have hb1:=(((Below.refl w.heap.size w).alloc (Nat.le_refl _) (.cells #[.int .i64 st,.int .i64 tr,.slice a n c,.bool dn,.slice a1 n1 c1,.slice a2 n2 c2] 115)).alloc (by simp) (.cells #[.int .i64 0,.int .i64 0,.slice none 0 0,.bool false,.slice none 0 0,.slice none 0 0] 70)).alloc (by simp;omega) (.cells #[.int .i64 st,.int .i64 tr,.slice none 0 0,.bool false,.slice none 0 0,.slice none 0 0] 70)
 have g1:SxAt (((w.alloc (.cells #[.int .i64 st,.int .i64 tr,.slice a n c,.bool dn,.slice a1 n1 c1,.slice a2 n2 c2] 115)).alloc (.cells #[.int .i64 0,.int .i64 0,.slice none 0 0,.bool false,.slice none 0 0,.slice none 0 0] 70)).alloc (.cells #[.int .i64 st,.int .i64 tr,.slice none 0 0,.bool false,.slice none 0 0,.slice none 0 0] 70)) w.heap.size (.int .i64 st) (.int .i64 tr) (.slice a n c) (.bool dn) (.slice a1 n1 c1) (.slice a2 n2 c2):=((sxAt_new w _ _ _ _ _ _ _).below ((Below.refl _ _).alloc (Nat.le_refl _) _)).below ((Below.refl _ _).alloc (Nat.le_refl _) _)
 have g2:SxAt (((w.alloc (.cells #[.int .i64 st,.int .i64 tr,.slice a n c,.bool dn,.slice a1 n1 c1,.slice a2 n2 c2] 115)).alloc (.cells #[.int .i64 0,.int .i64 0,.slice none 0 0,.bool false,.slice none 0 0,.slice none 0 0] 70)).alloc (.cells #[.int .i64 st,.int .i64 tr,.slice none 0 0,.bool false,.slice none 0 0,.slice none 0 0] 70)) (w.heap.size+1) (.int .i64 0) (.int .i64 0) (.slice none 0 0) (.bool false) (.slice none 0 0) (.slice none 0 0):=by
  have:=(sxAt_new (w.alloc (.cells #[.int .i64 st,.int .i64 tr,.slice a n c,.bool dn,.slice a1 n1 c1,.slice a2 n2 c2] 115)) 70 (.int .i64 0) (.int .i64 0) (.slice none 0 0) (.bool false) (.slice none 0 0) (.slice none 0 0)).below ((Below.refl _ _).alloc (Nat.le_refl _) (.cells #[.int .i64 st,.int .i64 tr,.slice none 0 0,.bool false,.slice none 0 0,.slice none 0 0] 70))
  rwa [World.size_alloc] at this
 have g3:SxAt (((w.alloc (.cells #[.int .i64 st,.int .i64 tr,.slice a n c,.bool dn,.slice a1 n1 c1,.slice a2 n2 c2] 115)).alloc (.cells #[.int .i64 0,.int .i64 0,.slice none 0 0,.bool false,.slice none 0 0,.slice none 0 0] 70)).alloc (.cells #[.int .i64 st,.int .i64 tr,.slice none 0 0,.bool false,.slice none 0 0,.slice none 0 0] 70)) (w.heap.size+1+1) (.int .i64 st) (.int .i64 tr) (.slice none 0 0) (.bool false) (.slice none 0 0) (.slice none 0 0):=by
  have:=sxAt_new ((w.alloc (.cells #[.int .i64 st,.int .i64 tr,.slice a n c,.bool dn,.slice a1 n1 c1,.slice a2 n2 c2] 115)).alloc (.cells #[.int .i64 0,.int .i64 0,.slice none 0 0,.bool false,.slice none 0 0,.slice none 0 0] 70)) 70 (.int .i64 st) (.int .i64 tr) (.slice none 0 0) (.bool false) (.slice none 0 0) (.slice none 0 0)
  rwa [World.size_alloc,World.size_alloc] at this
 have hr1:=h.below hb1
 have hf1:RowF (((w.alloc (.cells #[.int .i64 st,.int .i64 tr,.slice a n c,.bool dn,.slice a1 n1 c1,.slice a2 n2 c2] 115)).alloc (.cells #[.int .i64 0,.int .i64 0,.slice none 0 0,.bool false,.slice none 0 0,.slice none 0 0] 70)).alloc (.cells #[.int .i64 st,.int .i64 tr,.slice none 0 0,.bool false,.slice none 0 0,.slice none 0 0] 70)) a1 n1 a2 n2 ⟨dn,X,Y⟩:=hf.below hb1
 have hs1:w.heap.size+3≤(((w.alloc (.cells #[.int .i64 st,.int .i64 tr,.slice a n c,.bool dn,.slice a1 n1 c1,.slice a2 n2 c2] 115)).alloc (.cells #[.int .i64 0,.int .i64 0,.slice none 0 0,.bool false,.slice none 0 0,.slice none 0 0] 70)).alloc (.cells #[.int .i64 st,.int .i64 tr,.slice none 0 0,.bool false,.slice none 0 0,.slice none 0 0] 70)).heap.size:=by simp
 go_enter Tryz.func91,Tryz.ntmps91
 go_wp2_with fail
 obtain ⟨w1,hw1⟩:∃ w1,w1=(((w.alloc (.cells #[.int .i64 st,.int .i64 tr,.slice a n c,.bool dn,.slice a1 n1 c1,.slice a2 n2 c2] 115)).alloc (.cells #[.int .i64 0,.int .i64 0,.slice none 0 0,.bool false,.slice none 0 0,.slice none 0 0] 70)).alloc (.cells #[.int .i64 st,.int .i64 tr,.slice none 0 0,.bool false,.slice none 0 0,.slice none 0 0] 70)):=⟨_,rfl⟩
 rw [← hw1] at hb1 g1 g2 g3 hr1 hf1 hs1 ⊢
 clear hw1 h hf
 refine (toIntS_own a n c fr _ hr1 hn).mono ?_;rintro e w2 ⟨v,rfl,hov,hwv,hb2⟩
 obtain ⟨gv,cv,rfl,hgv,hlv⟩:=hov.slice
 have g1':=g1.below hb2;have g2':=g2.below hb2;have g3':=g3.below hb2
 have k2:=g3'.c2;have kf:=g3'.f2
 have k3:=g1'.c3;have k4:=g1'.c4;have k5:=g1'.c5
 have g3s:=g3'.set2 (.slice (some ⟨gv,0,none⟩) fr.length cv)
 have g1s:=g1'.keep (w':=w2.setCell ⟨w.heap.size+1+1,2,none⟩ (.slice (some ⟨gv,0,none⟩) fr.length cv)) (Below.heap_setCell _ _ _ _ (by simp;omega))
 have g2s:=g2'.keep (w':=w2.setCell ⟨w.heap.size+1+1,2,none⟩ (.slice (some ⟨gv,0,none⟩) fr.length cv)) (Below.heap_setCell _ _ _ _ (by simp))
 have hB3:Below w.heap.size w (w2.setCell ⟨w.heap.size+1+1,2,none⟩ (.slice (some ⟨gv,0,none⟩) fr.length cv)):=(hb1.trans (hb2.mono hb1.size)).setCell (by simp;omega) _
 have hov3:=owns_set hov.1 (g:=w.heap.size+1+1) (fun e=>by have:=(hov.1.lt _ e).1;omega) 2 (.slice (some ⟨gv,0,none⟩) fr.length cv)
 have hf3:RowF (w2.setCell ⟨w.heap.size+1+1,2,none⟩ (.slice (some ⟨gv,0,none⟩) fr.length cv)) a1 n1 a2 n2 ⟨dn,X,Y⟩:=HFR.out.below hB3
 have HG1:=Lib.hid g1s;have HG2:=Lib.hid g2s;have HG3:=Lib.hid g3s;have HB3:=Lib.hid hB3;have HO3:=Lib.hid hov3;have HF3:=Lib.hid hf3;have HSZ:=Lib.hid (show w.heap.size+3≤w2.heap.size from Nat.le_trans hs1 hb2.size)
 have HS1:=Lib.hid hs1
 clear g1 g2 g3 g1' g2' g3' g3s g1s g2s hB3 hov3 hf3 hr1 hf1 hb2 hs1 hov hb1
 go_wp2_with fail
 obtain ⟨w3,hw3⟩:∃ w3,w3=(w2.setCell ⟨w.heap.size+1+1,2,none⟩ (.slice (some ⟨gv,0,none⟩) fr.length cv)):=⟨_,rfl⟩
 have hs3:w2.heap.size≤w3.heap.size:=by rw [hw3];simp [World.setCell]
 rw [← hw3] at HG1 HG2 HG3 HB3 HO3 HF3 ⊢
 clear hw3 k2 kf k3 k4 k5
 refine (toEffect_w ⟨dn,X,Y⟩ a1 n1 c1 a2 n2 c2 _ HF3.out hn1 hn2).mono ?_;rintro e w4 ⟨ve,rfl,hoe,hb4⟩
 obtain ⟨y,z,rfl,oy,oz,wx,wy,hyz⟩:=hoe
 obtain ⟨ya,yn,yc,rfl⟩:=slice_form oy
 obtain ⟨za,zn,zc,rfl⟩:=slice_form oz
 have q2:=HG2.out.below hb4;have q3:=HG3.out.below hb4
 have hov4:=owns_below HO3.out hb4
 have hsz:=HSZ.out
 have hs4:=hb4.size
 have d3:=q3.c3;have d4:=q3.c4;have d5:=q3.c5;have e3:=q3.f3;have e4:=q3.f4;have e5:=q3.f5
 have q3s:=q3.set3 (.bool dn) (.slice ya yn yc) (.slice za zn zc)
 have hturn:Turn (w.heap.size+1+1) (w.heap.size+1+1+1) w4 (((w4.setCell ⟨w.heap.size+1+1,3,none⟩ (.bool dn)).setCell ⟨w.heap.size+1+1,4,none⟩ (.slice ya yn yc)).setCell ⟨w.heap.size+1+1,5,none⟩ (.slice za zn zc)) :=
  (((Turn.refl _ _ w4).setCell (g:=w.heap.size+1+1) ⟨Nat.le_refl _,Nat.lt_succ_self _⟩ 3 _).setCell (g:=w.heap.size+1+1) ⟨Nat.le_refl _,Nat.lt_succ_self _⟩ 4 _).setCell (g:=w.heap.size+1+1) ⟨Nat.le_refl _,Nat.lt_succ_self _⟩ 5 _
 have HT:=Lib.hid hturn
 have q2s:=q2.keep (w':=((w4.setCell ⟨w.heap.size+1+1,3,none⟩ (.bool dn)).setCell ⟨w.heap.size+1+1,4,none⟩ (.slice ya yn yc)).setCell ⟨w.heap.size+1+1,5,none⟩ (.slice za zn zc)) (hturn.block _ q2.lt (by omega))
 have HQ2:=Lib.hid q2s;have HQ3:=Lib.hid q3s
 have HB4:=Lib.hid (HB3.out.trans (hb4.mono HB3.out.size))
 have HOV:=Lib.hid hov4;have HOY:=Lib.hid oy;have HOZ:=Lib.hid oz
 clear q2 q3 q2s q3s hturn hb4 hov4 oy oz
 go_upto_region 6 with (fail)
 obtain ⟨w5,hw5⟩:∃ w5,w5=((w4.setCell ⟨w.heap.size+1+1,3,none⟩ (.bool dn)).setCell ⟨w.heap.size+1+1,4,none⟩ (.slice ya yn yc)).setCell ⟨w.heap.size+1+1,5,none⟩ (.slice za zn zc):=⟨_,rfl⟩
 rw [← hw5] at HT HQ2 HQ3 ⊢
 clear hw5 d3 d4 d5 e3 e4 e5
 obtain ⟨z0,z1,z2,z3,z4,z5,-,-,-,-,-,-⟩:=HQ3.out
 obtain ⟨u0,u1,u2,u3,u4,u5,t0,t1,t2,t3,t4,t5⟩:=HQ2.out
 go_wp2
 have hZ:=HQ2.out.set6 (.int .i64 st) (.int .i64 tr) (.slice (some ⟨gv,0,none⟩) fr.length cv) (.bool dn) (.slice ya yn yc) (.slice za zn zc)
 have ht6:Turn (w.heap.size+1) (w.heap.size+1+1) w5 ((((((w5.setCell ⟨w.heap.size+1,0,none⟩ (.int .i64 st)).setCell ⟨w.heap.size+1,1,none⟩ (.int .i64 tr)).setCell ⟨w.heap.size+1,2,none⟩ (.slice (some ⟨gv,0,none⟩) fr.length cv)).setCell ⟨w.heap.size+1,3,none⟩ (.bool dn)).setCell ⟨w.heap.size+1,4,none⟩ (.slice ya yn yc)).setCell ⟨w.heap.size+1,5,none⟩ (.slice za zn zc)) :=
  ((((((Turn.refl _ _ w5).setCell (g:=w.heap.size+1) ⟨Nat.le_refl _,Nat.lt_succ_self _⟩ 0 _).setCell (g:=w.heap.size+1) ⟨Nat.le_refl _,Nat.lt_succ_self _⟩ 1 _).setCell (g:=w.heap.size+1) ⟨Nat.le_refl _,Nat.lt_succ_self _⟩ 2 _).setCell (g:=w.heap.size+1) ⟨Nat.le_refl _,Nat.lt_succ_self _⟩ 3 _).setCell (g:=w.heap.size+1) ⟨Nat.le_refl _,Nat.lt_succ_self _⟩ 4 _).setCell (g:=w.heap.size+1) ⟨Nat.le_refl _,Nat.lt_succ_self _⟩ 5 _
 obtain ⟨w6,hw6⟩:∃ w6,w6=((((((w5.setCell ⟨w.heap.size+1,0,none⟩ (.int .i64 st)).setCell ⟨w.heap.size+1,1,none⟩ (.int .i64 tr)).setCell ⟨w.heap.size+1,2,none⟩ (.slice (some ⟨gv,0,none⟩) fr.length cv)).setCell ⟨w.heap.size+1,3,none⟩ (.bool dn)).setCell ⟨w.heap.size+1,4,none⟩ (.slice ya yn yc)).setCell ⟨w.heap.size+1,5,none⟩ (.slice za zn zc)):=⟨_,rfl⟩
 rw [← hw6] at hZ ht6 ⊢
 clear hw6 z0 z1 z2 z3 z4 z5 u0 u1 u2 u3 u4 u5 t0 t1 t2 t3 t4 t5
 have htt:Turn (w.heap.size+1) (w.heap.size+3) w4 w6:=(HT.out.wide (by omega) (Nat.le_refl _)).trans (ht6.wide (Nat.le_refl _) (by omega))
 have hown:OwnR w4 (w.heap.size+3) w4.heap.size (slRs 3 109 ⟨st,tr,fr,⟨dn,X,Y⟩⟩ (.slice (some ⟨gv,0,none⟩) fr.length cv,.slice ya yn yc,.slice za zn zc)):=by
  have l1:=hlv
  have l2:=HS1.out
  have l3:=hgv
  have b1:∀ b,blk (Value.slice (some ⟨gv,0,none⟩) fr.length cv)=some b→b < w3.heap.size:=fun b hb=>by simp [blk] at hb;omega
  have b2:∀ b,blk (Value.slice ya yn yc)=some b→w3.heap.size≤b∧b < w4.heap.size:=fun b hb=>by rw [owns_blk HOY.out] at hb;exact HOY.out.lt b hb
  have b3:∀ b,blk (Value.slice za zn zc)=some b→w3.heap.size≤b∧b < w4.heap.size:=fun b hb=>by rw [owns_blk HOZ.out] at hb;exact HOZ.out.lt b hb
  refine ⟨fun r hr=>?_,fun r hr b hb=>?_,?_⟩
  · simp only [slRs,List.mem_cons,List.not_mem_nil,or_false] at hr
    rcases hr with rfl | rfl | rfl
    · exact owns_base HOV.out fun b hb=>by simp [blk] at hb;omega
    · exact owns_mono HOY.out (by omega)
    · exact owns_mono HOZ.out (by omega)
  · simp only [slRs,List.mem_cons,List.not_mem_nil,or_false] at hr
    rcases hr with rfl | rfl | rfl
    · have:=b1 b hb;omega
    · exact (b2 b hb).2
    · exact (b3 b hb).2
  · simp only [slRs,List.pairwise_cons,List.mem_cons,List.not_mem_nil,or_false,List.Pairwise.nil,and_true]
    refine ⟨fun r hr p hp hq=>?_,fun r hr p hp hq=>?_,fun r hr=>hr.elim⟩
    · have h1:=b1 p hp
      rcases hr with rfl | rfl
      · have:=(b2 p hq).1;omega
      · have:=(b3 p hq).1;omega
    · subst hr
      rw [owns_blk HOY.out] at hp
      rw [owns_blk HOZ.out] at hq
      exact hyz p hp hq
 have hB6:Below w.heap.size w w6:=htt.below HB4.out (by omega) HB4.out.size
 refine bodyPost_ret (v:=slV ⟨st,tr,fr,⟨dn,X,Y⟩⟩ (.slice (some ⟨gv,0,none⟩) fr.length cv) (.slice ya yn yc) (.slice za zn zc)) ?_ rfl ⟨_,_,_,rfl,((hown.turn htt (.inr (.inl (Nat.le_refl _)))).top).mono (by omega) (Nat.le_refl _),hwv,wx,wy,hB6⟩
 obtain ⟨z0,z1,z2,z3,z4,z5,-,-,-,-,-,-⟩:=hZ
 simp [results,Tryz.results91,go_sem,z0,z1,z2,z3,z4,z5,slV]
end Go.Proofs.YtoiblfjafjoaeabGreat
/- The contract of the laws' own helper toSlotS. -/
namespace Go.Proofs.YtoiblfjafjoaeabGreat
open Go.RowKit
set_option linter.unusedVariables false
theorem infoSlotC:(Tryz.prog.info? 70).map (fun i=>(i.zero,i.size,i.bytes))=some (some (.agg #[.int .i64 0,.int .i64 0,.slice none 0 0,.bool false,.slice none 0 0,.slice none 0 0]),6,96):=by kernel_rfl
def fillSl (L:List Slt) (k n:Nat):List Slt:=L.take k++List.replicate (n - k) noSlt
def fillT (tk:List (Value × Value × Value)) (k n:Nat):List (Value × Value × Value):=tk++List.replicate (n - k) nil3
theorem slsCs_append {L M:List Slt} {ts us:List (Value × Value × Value)} (h:L.length=ts.length):slsCs (L++M) (ts++us)=slsCs L ts++slsCs M us:=by
 unfold slsCs
 rw [List.zip_append h,List.flatMap_append]
theorem slsRs_append {tI tE:TypeId} {L M:List Slt} {ts us:List (Value × Value × Value)} (h:L.length=ts.length):slsRs tI tE (L++M) (ts++us)=slsRs tI tE L ts++slsRs tI tE M us:=by
 unfold slsRs
 rw [List.zip_append h,List.flatMap_append]
theorem slsCs_len {L:List Slt} {ts:List (Value × Value × Value)} (h:ts.length=L.length):(slsCs L ts).length=L.length*6:=by
 have:=flatMap_len (fun p:Slt × (Value × Value × Value)=>slCs p.1 p.2) 6 (fun _=>rfl) (L.zip ts)
 rw [List.length_zip,h,Nat.min_self] at this
 exact this
theorem set_at (A B:List Value) (m j:Nat) (x:Value) (h:A.length=m):(A++B).set (m+j) x=A++B.set j x:=by
 subst h
 rw [List.set_append_right _ _ (Nat.le_add_right _ _),Nat.add_sub_cancel_left]
theorem take_one (L:List Slt) (k:Nat) (h:k < L.length):L.take (k+1)=L.take k++[L.getD k noSlt]:=by
 rw [List.take_succ_eq_append_getElem h,List.getD_eq_getElem?_getD,List.getElem?_eq_getElem h];rfl
theorem fill_step {L:List Slt} {n k:Nat} {tk:List (Value × Value × Value)} (hL:L.length=n) (ht:tk.length=k) (hk:k < n) (s:Slt) (hs:s=L.getD k noSlt) (x y z:Value) :
  ((((((slsCs (fillSl L k n) (fillT tk k n)).set (k*6) (.int .i64 s.stage)).set (k*6+1) (.int .i64 s.tries)).set (k*6+2) x).set (k*6+3) (.bool s.res.done)).set (k*6+4) y).set (k*6+5) z=slsCs (fillSl L (k+1) n) (fillT (tk++[(x,y,z)]) (k+1) n):=by
 have h1:(L.take k).length=tk.length:=by rw [List.length_take,ht];omega
 have hA:(slsCs (L.take k) tk).length=k*6:=by rw [slsCs_len h1.symm,List.length_take];congr 1;omega
 have e0:n - k=(n - (k+1))+1:=by omega
 unfold fillSl fillT
 rw [slsCs_append h1,e0,List.replicate_succ,List.replicate_succ,take_one L k (by omega),List.append_assoc,List.append_assoc,slsCs_append h1,← hs]
 have e1:slsCs (noSlt :: List.replicate (n - (k+1)) noSlt) (nil3 :: List.replicate (n - (k+1)) nil3)=slCs noSlt nil3++slsCs (List.replicate (n - (k+1)) noSlt) (List.replicate (n - (k+1)) nil3):=by simp [slsCs]
 have e2:slsCs ([s]++List.replicate (n - (k+1)) noSlt) ([(x,y,z)]++List.replicate (n - (k+1)) nil3)=slCs s (x,y,z)++slsCs (List.replicate (n - (k+1)) noSlt) (List.replicate (n - (k+1)) nil3):=by simp [slsCs]
 rw [e1,e2]
 have z0:=fun B x=>set_at (slsCs (L.take k) tk) B (k*6) 0 x hA
 simp only [Nat.add_zero] at z0
 rw [z0,set_at _ _ _ _ _ hA,set_at _ _ _ _ _ hA,set_at _ _ _ _ _ hA,set_at _ _ _ _ _ hA,set_at _ _ _ _ _ hA]
 simp [slCs]
def NewSls (w:World) (tS tI tE:TypeId) (L:List Slt) (e:Ending) (w':World):Prop :=
 ∃ v ts,e = .returned v∧ts.length=L.length∧OwnR w' w.heap.size w'.heap.size (⟨v,tS,6,L.length,slsCs L ts⟩ :: slsRs tI tE L ts)∧Below w.heap.size w w'
theorem owns_curS {w:World} {B:Nat} {e:TypeId} {size g cap n:Nat} {xs:List Value} (h:w.ownsRow B e size (.slice (some ⟨g,0,none⟩) n cap) n xs) :
  ∃ cur,w.heap[g]? = some (.cells cur e (0,0)):=by
 rcases h.2 with ⟨h',_⟩ | ⟨g',cap',cur,h',hb,hg,_⟩
 · simp at h'
 · simp only [Value.slice.injEq,Option.some.injEq,Addr.mk.injEq,and_true,true_and] at h'
   obtain ⟨rfl,rfl⟩:=h'
   exact ⟨cur,hg⟩
theorem some_at {xs:List Value} {i:Nat} (h:i < xs.length):∃ v,xs[i]? = some v:=⟨xs[i],List.getElem?_eq_getElem h⟩
theorem sumSl_len (L:List Slt) (k:Nat) (h:k < L.length):wtS (L.getD k noSlt)≤sumSl L:=by
 have:=sumSl_next L k h;have:=sumSl_take L (k+1);omega
set_option maxRecDepth 100000 in
set_option maxHeartbeats 4000000 in
theorem toSlotS_any (a:Option Addr) (n cap:Nat) (L:List Slt) (w:World) (h:RowSl w a n L) (hn:wtSl L≤1048576) :
  Calls Tryz.prog 50 #[.slice a n cap] w (NewSls w 70 3 109 L):=by
 obtain ⟨hl,-,hc,-⟩:=h
 have HN:=Lib.hid hl;clear hl
 have HSW:Hid (∀ k,k < n→(L.getD k noSlt).from_.length+(L.getD k noSlt).res.rds.length+(L.getD k noSlt).res.wrs.length≤1048576):=Lib.hid (fun k hk=>by have:=sumSl_len L k (by rw [HN.out];exact hk);unfold wtSl at hn;unfold wtS at this;omega)
 have hn1:n≤1048576:=by unfold wtSl at hn;rw [HN.out] at hn;omega
 clear hn
 obtain ⟨i0,hi,hz0,hz1,hz2⟩:=info_parts infoSlotC
 go_enter Tryz.func50,Tryz.ntmps50
 go_wp2_with (first | (at_make;refine wpList_make_full _ rfl (.tmp 6) (.tmp 6) 33 rfl w.heap.size 70 i0 (.agg #[.int .i64 0,.int .i64 0,.slice none 0 0,.bool false,.slice none 0 0,.slice none 0 0]) 6 Tryz.underlying33 hi hz0 hz1 .i64 .i64 n n n rfl rfl rfl rfl (by rw [hz2];omega) (by unfold maxLen;omega) (Nat.le_refl _) ?_;intro w1 hown hgrow;clear hi hz0 hz1 hz2))
 rw [← slsCs_zero] at hown
 have hb1:Below w.heap.size w w1:=(Below.refl _ _).grown hgrow (Nat.le_refl _) (fun k hk=>by simp at hk)
 have hR1:OwnR w1 w.heap.size w1.heap.size (⟨.slice (some ⟨w.heap.size,0,none⟩) n n,70,6,n,slsCs (fillSl L 0 n) (fillT [] 0 n)⟩ :: slsRs 3 109 (L.take 0) []):=by
  refine (OwnR.nil w1 w.heap.size w1.heap.size).cons _ (by simpa [fillSl,fillT] using hown) (fun b hb=>?_) (fun x hx=>by cases hx)
  have hb':=hb
  rw [owns_blk hown] at hb'
  exact (hown.lt b hb').2
 clear hgrow hown
 go_loopw [4] (fun i wr=>∃ (k:Nat) (tk:List (Value × Value × Value)),k≤n∧i = .int .i64 k∧tk.length=k∧OwnR wr w.heap.size wr.heap.size (⟨.slice (some ⟨w.heap.size,0,none⟩) n n,70,6,n,slsCs (fillSl L k n) (fillT tk k n)⟩ :: slsRs 3 109 (L.take k) tk)∧Below w.heap.size w wr) (fun i _=>n - (intOf i).toNat)
 case atStart=>exact ⟨0,[],Nat.zero_le _,rfl,rfl,hR1,hb1⟩
 case round =>
  clear hR1 hb1
  obtain ⟨k,tk,hk,rfl,htk,hR,hb⟩:=hrel
  by_cases hlt:k < n
  · obtain ⟨b,off,rfl,hcc⟩:=hc (by omega)
    obtain ⟨g1,g2,⟨x,g3,hx⟩,g4,⟨y,g5,hy⟩,z,g6,hz⟩:=(hcc k hlt).below hb
    obtain ⟨a1,n1,cap1,rfl,r1,-,-⟩:=hx
    obtain ⟨a2,n2,cap2,rfl,r2,-,-⟩:=hy
    obtain ⟨a3,n3,cap3,rfl,r3,-,-⟩:=hz
    have hsw:=HSW.out k hlt
    rw [r1.1,r2.1,r3.1] at hsw
    have hstep:=fun x y z=>fill_step (tk:=tk) HN.out htk hlt (L.getD k noSlt) rfl x y z
    have htake:=take_one L k (by rw [HN.out];exact hlt)
    have HLT:Hid ((L.take k).length=tk.length):=Lib.hid (by rw [List.length_take,htk,HN.out];omega)
    obtain ⟨s,hs⟩:∃ s,s=L.getD k noSlt:=⟨_,rfl⟩
    rw [← hs] at g1 g2 g4 hstep htake
    have HR1:=Lib.hid (show RowI wr a1 n1 s.from_ by rw [hs];exact r1)
    have HR2:=Lib.hid (show RowF wr a2 n2 a3 n3 s.res by rw [hs];exact ⟨r2,r3⟩)
    have HST:=Lib.hid hstep;have HTK:=Lib.hid htake;have HRR:=Lib.hid hR;have HTL:=Lib.hid htk
    clear hc hcc r1 r2 r3 hs hstep htake hR htk
    go_wp2_with fail
    refine (toSlot_any s n1 n2 n3 a1 a2 a3 cap1 cap2 cap3 _ HR1.out HR2.out (by omega) (by omega) (by omega)).mono ?_;rintro e w2 ⟨x,y,z,rfl,hown,-,-,-,hb2⟩
    obtain ⟨xa,xn,xc,rfl⟩:=slice_form (hown.own _ List.mem_cons_self)
    obtain ⟨ya,yn,yc,rfl⟩:=slice_form (hown.own _ (List.mem_cons_of_mem _ List.mem_cons_self))
    obtain ⟨za,zn,zc,rfl⟩:=slice_form (hown.own _ (List.mem_cons_of_mem _ (List.mem_cons_of_mem _ List.mem_cons_self)))
    have hR2:=(HRR.out.below hb2).append hown (Nat.le_refl _) hb.size (hb2.size)
    rw [List.cons_append] at hR2
    have hhead:=hR2.head
    obtain ⟨cur,hcur⟩:=owns_curS hhead
    have hf:=frozen_of_row w2 w.heap.size
    have hlen:(slsCs (fillSl L k n) (fillT tk k n)).length=n*6:=hhead.1
    have cell:∀ j,j < 6→∃ v,w2.cell? ⟨w.heap.size,k*6+j,none⟩=some v:=fun j hj=>by
     obtain ⟨v,hv⟩:=some_at (xs:=slsCs (fillSl L k n) (fillT tk k n)) (i:=k*6+j) (by rw [hlen];omega)
     exact ⟨v,(hhead.cellAt (k*6+j) (by show k*6+j < n*6;omega)).trans hv⟩
    obtain ⟨v0,c0⟩:=cell 0 (by omega);obtain ⟨v1,c1⟩:=cell 1 (by omega);obtain ⟨v2,c2⟩:=cell 2 (by omega)
    obtain ⟨v3,c3⟩:=cell 3 (by omega);obtain ⟨v4,c4⟩:=cell 4 (by omega);obtain ⟨v5,c5⟩:=cell 5 (by omega)
    rw [Nat.add_zero] at c0
    have f0:=hf (k*6) cur _ hcur;have f1:=hf (k*6+1) cur _ hcur;have f2:=hf (k*6+2) cur _ hcur
    have f3:=hf (k*6+3) cur _ hcur;have f4:=hf (k*6+4) cur _ hcur;have f5:=hf (k*6+5) cur _ hcur
    have hfin:=(((((hR2.store (k*6) (.int .i64 s.stage)).store (k*6+1) (.int .i64 s.tries)).store (k*6+2) (.slice xa xn xc)).store (k*6+3) (.bool s.res.done)).store (k*6+4) (.slice ya yn yc)).store (k*6+5) (.slice za zn zc)
    rw [HST.out] at hfin
    have hrs:slsRs 3 109 (L.take k) tk++slRs 3 109 s (.slice xa xn xc,.slice ya yn yc,.slice za zn zc)=slsRs 3 109 (L.take (k+1)) (tk++[(.slice xa xn xc,.slice ya yn yc,.slice za zn zc)]):=by
     rw [HTK.out,slsRs_append HLT.out];simp [slsRs]
    rw [hrs] at hfin
    have hB6:Below w.heap.size w ((((((w2.setCell ⟨w.heap.size,k*6,none⟩ (.int .i64 s.stage)).setCell ⟨w.heap.size,k*6+1,none⟩ (.int .i64 s.tries)).setCell ⟨w.heap.size,k*6+2,none⟩ (.slice xa xn xc)).setCell ⟨w.heap.size,k*6+3,none⟩ (.bool s.res.done)).setCell ⟨w.heap.size,k*6+4,none⟩ (.slice ya yn yc)).setCell ⟨w.heap.size,k*6+5,none⟩ (.slice za zn zc)) :=
     ((((((hb.trans (hb2.mono hb.size)).setCell (Nat.le_refl _) _).setCell (Nat.le_refl _) _).setCell (Nat.le_refl _) _).setCell (Nat.le_refl _) _).setCell (Nat.le_refl _) _).setCell (Nat.le_refl _) _
    have HFIN:=Lib.hid hfin.top;have HB6:=Lib.hid hB6
    clear hfin hrs hB6 hR2 hhead hcur hf hlen cell hown hb2 hb g1 g2 g3 g4 g5 g6
    simp only [slV]
    go_wp2
    obtain ⟨w6,hw6⟩:∃ w6,w6=(((((w2.setCell ⟨w.heap.size,k*6,none⟩ (.int .i64 s.stage)).setCell ⟨w.heap.size,k*6+1,none⟩ (.int .i64 s.tries)).setCell ⟨w.heap.size,k*6+2,none⟩ (.slice xa xn xc)).setCell ⟨w.heap.size,k*6+3,none⟩ (.bool s.res.done)).setCell ⟨w.heap.size,k*6+4,none⟩ (.slice ya yn yc)).setCell ⟨w.heap.size,k*6+5,none⟩ (.slice za zn zc):=⟨_,rfl⟩
    rw [← hw6] at HFIN HB6 ⊢
    clear hw6 c0 c1 c2 c3 c4 c5 f0 f1 f2 f3 f4 f5
    go_roundw
    case rel=>exact ⟨k+1,_,by omega,by go_num,by rw [List.length_append,HTL.out];rfl,HFIN.out,HB6.out⟩
    case measure=>simp [intOf];omega
  · obtain rfl:k=n:=by omega
    have e1:fillSl L k k=L:=by unfold fillSl;rw [Nat.sub_self,List.take_of_length_le (by rw [HN.out];exact Nat.le_refl _)];simp
    have e2:fillT tk k k=tk:=by unfold fillT;rw [Nat.sub_self];simp
    have e3:L.take k=L:=List.take_of_length_le (by rw [HN.out];exact Nat.le_refl _)
    rw [e1,e2,e3] at hR
    have HRR:=Lib.hid hR
    clear hR e1 e2 e3 hc
    go_wp2
    go_ret
    exact ⟨_,tk,rfl,by rw [htk,HN.out],by have:=HRR.out;rw [← HN.out] at this ⊢;exact this,hb⟩
end Go.Proofs.YtoiblfjafjoaeabGreat
/- The contract of the laws' own helper toEngine. -/
namespace Go.Proofs.YtoiblfjafjoaeabGreat
open Go.RowKit
set_option linter.unusedVariables false
theorem engWf_rd {w:World} {v1 v2 v3 v4:Value} {e:Eng} (h:EngRd w v1 v2 v3 v4 e) (hn:wtEng e≤1048576):EngWf e:=by
 obtain ⟨⟨a1,n1,c1,-,r1,-,-⟩,⟨a2,n2,c2,-,r2,-,-⟩,⟨a3,n3,c3,-,r3,-,-⟩,a4,n4,c4,-,r4,-,-⟩:=h
 unfold wtEng wtSl at hn
 refine ⟨r1.2.2.2,r2.2.2.2,r3.2.2.2,fun s hs=>?_,by omega,by omega,by omega,by omega⟩
 obtain ⟨i,hi,rfl⟩:=List.getElem_of_mem hs
 have hg:e.slots.getD i noSlt=e.slots[i]:=by rw [List.getD_eq_getElem?_getD,List.getElem?_eq_getElem hi];rfl
 obtain ⟨b,off,-,hc⟩:=r4.2.2.1 (by rw [← r4.1];omega)
 have hi4:i < n4:=by rw [← r4.1];exact hi
 obtain ⟨-,-,⟨x,-,hx⟩,-,⟨y,-,hy⟩,z,-,hz⟩:=hc i hi4
 have hw:=sumSl_len e.slots i hi
 have hbd:=r4.2.2.2 _ hs
 rw [hg] at hx hy hz hw
 unfold wtS at hw
 obtain ⟨_,_,_,-,rx,-,-⟩:=hx
 obtain ⟨_,_,_,-,ry,-,-⟩:=hy
 obtain ⟨_,_,_,-,rz,-,-⟩:=hz
 exact ⟨hbd.1,hbd.2,rx.2.2.2,ry.2.2.2,rz.2.2.2,by omega,by omega,by omega⟩
structure Te (w W:World) (v1 v2 v3 v4 u1 u2 u3 u4:Value) (R:List Rw):Prop where
 inn:EgAt W w.heap.size v1 v2 v3 v4
 ans:EgAt W (w.heap.size+1) (.slice none 0 0) (.slice none 0 0) (.slice none 0 0) (.slice none 0 0)
 cpy:EgAt W (w.heap.size+1+1) u1 u2 u3 u4
 own:OwnR W (w.heap.size+3) W.heap.size R
 below:Below w.heap.size w W
 size:w.heap.size+3≤W.heap.size
theorem Te.add {w W W':World} {v1 v2 v3 v4 u1 u2 u3 u4:Value} {R R2:List Rw} (h:Te w W v1 v2 v3 v4 u1 u2 u3 u4 R) (hb:Below W.heap.size W W') (h2:OwnR W' W.heap.size W'.heap.size R2):Te w W' v1 v2 v3 v4 u1 u2 u3 u4 (R++R2) :=
 ⟨h.inn.below hb,h.ans.below hb,h.cpy.below hb,(h.own.below hb).append h2 (Nat.le_refl _) h.size hb.size,h.below.trans (hb.mono h.below.size),Nat.le_trans h.size hb.size⟩
theorem Te.put {w W:World} {v1 v2 v3 v4 u1 u2 u3 u4 x1 x2 x3 x4:Value} {R:List Rw} (h:Te w W v1 v2 v3 v4 u1 u2 u3 u4 R) (i:Nat) (x:Value) (hc:EgAt (W.setCell ⟨w.heap.size+1+1,i,none⟩ x) (w.heap.size+1+1) x1 x2 x3 x4):Te w (W.setCell ⟨w.heap.size+1+1,i,none⟩ x) v1 v2 v3 v4 x1 x2 x3 x4 R:=by
 have hk:∀ b,b≠w.heap.size+1+1→(W.setCell ⟨w.heap.size+1+1,i,none⟩ x).heap[b]? = W.heap[b]?:=fun b hb=>Below.heap_setCell _ _ _ _ (by simpa using hb)
 refine ⟨h.inn.keep (hk _ (by omega)),h.ans.keep (hk _ (by omega)),hc,?_,h.below.setCell (by simp;omega) x,by simpa [World.setCell] using h.size⟩
 have:=h.own.keep (w':=W.setCell ⟨w.heap.size+1+1,i,none⟩ x) fun r hr b hb=>hk b (by have:=(h.own.ge hr hb).1;omega)
 exact this.mono (Nat.le_refl _) (by simp [World.setCell])
theorem ownR_one {w:World} {B:Nat} {r:Rw} (h:w.ownsRow B r.e r.size r.v r.n r.cs):OwnR w B w.heap.size [r] :=
 (OwnR.nil w B w.heap.size).cons r h (fun b hb=>by rw [owns_blk h] at hb;exact (h.lt b hb).2) (fun x hx=>by cases hx)
set_option maxRecDepth 100000 in
set_option maxHeartbeats 4000000 in
theorem toEngine_any (v1 v2 v3 v4:Value) (e:Eng) (w:World) (h:EngRd w v1 v2 v3 v4 e) (hn:wtEng e≤1048576) :
  Calls Tryz.prog 12 #[.agg #[v1,v2,v3,v4]] w (NewEng w tEng e):=by
 have HWF:=Lib.hid (engWf_rd h hn)
 obtain ⟨⟨a1,n1,c1,rfl,r1,-,-⟩,⟨a2,n2,c2,rfl,r2,-,-⟩,⟨a3,n3,c3,rfl,r3,-,-⟩,a4,n4,c4,rfl,r4,-,-⟩:=h
 have m1:n1≤1048576:=by rw [← r1.1];unfold wtEng at hn;omega
 have m2:n2≤1048576:=by rw [← r2.1];unfold wtEng at hn;omega
 have m3:n3≤1048576:=by rw [← r3.1];unfold wtEng at hn;omega
 have m4:wtSl e.slots≤1048576:=by unfold wtEng at hn;omega
 have H1:=Lib.hid r1;have H2:=Lib.hid r2;have H3:=Lib.hid r3;have H4:=Lib.hid r4
 have hT0:Te w (((w.alloc (.cells #[.slice a1 n1 c1,.slice a2 n2 c2,.slice a3 n3 c3,.slice a4 n4 c4] 27)).alloc (.cells #[.slice none 0 0,.slice none 0 0,.slice none 0 0,.slice none 0 0] 35)).alloc (.cells #[.slice none 0 0,.slice none 0 0,.slice none 0 0,.slice none 0 0] 35)) (.slice a1 n1 c1) (.slice a2 n2 c2) (.slice a3 n3 c3) (.slice a4 n4 c4) (.slice none 0 0) (.slice none 0 0) (.slice none 0 0) (.slice none 0 0) []:=by
  have g2:=(egAt_new (w.alloc (.cells #[.slice a1 n1 c1,.slice a2 n2 c2,.slice a3 n3 c3,.slice a4 n4 c4] 27)) 35 (.slice none 0 0) (.slice none 0 0) (.slice none 0 0) (.slice none 0 0)).below ((Below.refl _ _).alloc (Nat.le_refl _) (.cells #[.slice none 0 0,.slice none 0 0,.slice none 0 0,.slice none 0 0] 35))
  have g3:=egAt_new ((w.alloc (.cells #[.slice a1 n1 c1,.slice a2 n2 c2,.slice a3 n3 c3,.slice a4 n4 c4] 27)).alloc (.cells #[.slice none 0 0,.slice none 0 0,.slice none 0 0,.slice none 0 0] 35)) 35 (.slice none 0 0) (.slice none 0 0) (.slice none 0 0) (.slice none 0 0)
  rw [World.size_alloc] at g2
  rw [World.size_alloc,World.size_alloc] at g3
  exact ⟨((egAt_new w _ _ _ _ _).below ((Below.refl _ _).alloc (Nat.le_refl _) _)).below ((Below.refl _ _).alloc (Nat.le_refl _) _),g2,g3,OwnR.nil _ _ _,(((Below.refl w.heap.size w).alloc (Nat.le_refl _) _).alloc (by simp) _).alloc (by simp;omega) _,by simp⟩
 clear r1 r2 r3 r4 hn
 go_enter Tryz.func12,Tryz.ntmps12
 go_wp2_with fail
 obtain ⟨w1,hw1⟩:∃ w1,w1=((w.alloc (.cells #[.slice a1 n1 c1,.slice a2 n2 c2,.slice a3 n3 c3,.slice a4 n4 c4] 27)).alloc (.cells #[.slice none 0 0,.slice none 0 0,.slice none 0 0,.slice none 0 0] 35)).alloc (.cells #[.slice none 0 0,.slice none 0 0,.slice none 0 0,.slice none 0 0] 35):=⟨_,rfl⟩
 rw [← hw1] at hT0 ⊢
 clear hw1
 refine (toEntryS_any a1 n1 c1 e.base _ (H1.out.below hT0.below) m1).mono ?_;rintro en x0 ⟨v,rfl,ho,-,hb⟩
 obtain ⟨p0,q0,s0,rfl⟩:=slice_form ho.1
 have hA:=hT0.add hb (ownR_one (r:=⟨(.slice p0 q0 s0),109,2,e.base.length,flatE e.base⟩) ho.1)
 have HN:=Lib.hid (hA.put 0 (.slice p0 q0 s0) (hA.cpy.set0 (.slice p0 q0 s0)))
 obtain ⟨z0,z1,z2,z3,f0,f1,f2,f3⟩:=hA.cpy
 obtain ⟨j0,j1,j2,j3,-,-,-,-⟩:=hA.inn
 clear hT0 hb ho hA
 go_wp2_with fail
 obtain ⟨y0,hy⟩:∃ y,y=x0.setCell ⟨w.heap.size+1+1,0,none⟩ (.slice p0 q0 s0):=⟨_,rfl⟩
 rw [← hy] at HN ⊢
 clear hy z0 z1 z2 z3 f0 f1 f2 f3 j0 j1 j2 j3
 have hT1:=HN.out
 clear HN
 refine (toActionS_any a2 n2 c2 e.list _ (H2.out.below hT1.below) m2).mono ?_;rintro en x1 ⟨v,rfl,ho,-,hb⟩
 obtain ⟨p1,q1,s1,rfl⟩:=slice_form ho.1
 have hA:=hT1.add hb (ownR_one (r:=⟨(.slice p1 q1 s1),119,4,e.list.length,flatA e.list⟩) ho.1)
 have HN:=Lib.hid (hA.put 1 (.slice p1 q1 s1) (hA.cpy.set1 (.slice p1 q1 s1)))
 obtain ⟨z0,z1,z2,z3,f0,f1,f2,f3⟩:=hA.cpy
 obtain ⟨j0,j1,j2,j3,-,-,-,-⟩:=hA.inn
 clear hT1 hb ho hA
 go_wp2_with fail
 obtain ⟨y1,hy⟩:∃ y,y=x1.setCell ⟨w.heap.size+1+1,1,none⟩ (.slice p1 q1 s1):=⟨_,rfl⟩
 rw [← hy] at HN ⊢
 clear hy z0 z1 z2 z3 f0 f1 f2 f3 j0 j1 j2 j3
 have hT2:=HN.out
 clear HN
 refine (toVersionS_any a3 n3 c3 e.vers _ (H3.out.below hT2.below) m3).mono ?_;rintro en x2 ⟨v,rfl,ho,-,hb⟩
 obtain ⟨p2,q2,s2,rfl⟩:=slice_form ho.1
 have hA:=hT2.add hb (ownR_one (r:=⟨(.slice p2 q2 s2),72,3,e.vers.length,flatV e.vers⟩) ho.1)
 have HN:=Lib.hid (hA.put 2 (.slice p2 q2 s2) (hA.cpy.set2 (.slice p2 q2 s2)))
 obtain ⟨z0,z1,z2,z3,f0,f1,f2,f3⟩:=hA.cpy
 obtain ⟨j0,j1,j2,j3,-,-,-,-⟩:=hA.inn
 clear hT2 hb ho hA
 go_wp2_with fail
 obtain ⟨y2,hy⟩:∃ y,y=x2.setCell ⟨w.heap.size+1+1,2,none⟩ (.slice p2 q2 s2):=⟨_,rfl⟩
 rw [← hy] at HN ⊢
 clear hy z0 z1 z2 z3 f0 f1 f2 f3 j0 j1 j2 j3
 have hT3:=HN.out
 clear HN
 refine (toSlotS_any a4 n4 c4 e.slots _ (H4.out.below hT3.below) m4).mono ?_;rintro en x3 ⟨v,ts,rfl,hts,ho,hb⟩
 obtain ⟨p3,q3,s3,rfl⟩:=slice_form ho.head
 have hA:=hT3.add hb ho
 have HN:=Lib.hid (hA.put 3 (.slice p3 q3 s3) (hA.cpy.set3 (.slice p3 q3 s3)))
 obtain ⟨z0,z1,z2,z3,f0,f1,f2,f3⟩:=hA.cpy
 obtain ⟨j0,j1,j2,j3,-,-,-,-⟩:=hA.inn
 clear hT3 hb ho hA
 go_upto_region 6 with (fail)
 obtain ⟨y3,hy⟩:∃ y,y=x3.setCell ⟨w.heap.size+1+1,3,none⟩ (.slice p3 q3 s3):=⟨_,rfl⟩
 rw [← hy] at HN ⊢
 clear hy z0 z1 z2 z3 f0 f1 f2 f3 j0 j1 j2 j3
 obtain ⟨z0,z1,z2,z3,-,-,-,-⟩:=HN.out.cpy
 obtain ⟨u0,u1,u2,u3,t0,t1,t2,t3⟩:=HN.out.ans
 go_wp2
 have hZ:=HN.out.ans.set4 (.slice p0 q0 s0) (.slice p1 q1 s1) (.slice p2 q2 s2) (.slice p3 q3 s3)
 have ht:=set4_turn y3 (w.heap.size+1) (.slice p0 q0 s0) (.slice p1 q1 s1) (.slice p2 q2 s2) (.slice p3 q3 s3)
 have hown:=HN.out.own
 have hB:=ht.below HN.out.below (by omega) HN.out.below.size
 have hO:=(hown.turn ht (.inr (.inl (by omega)))).top.mono (show w.heap.size≤w.heap.size+3 by omega) (Nat.le_refl _)
 refine bodyPost_ret (results_eng Tryz.results12 _ (by rfl) hZ) rfl ⟨_,_,_,_,ts,rfl,⟨hts,?_,HWF.out⟩,hB⟩
 exact hO
end Go.Proofs.YtoiblfjafjoaeabGreat

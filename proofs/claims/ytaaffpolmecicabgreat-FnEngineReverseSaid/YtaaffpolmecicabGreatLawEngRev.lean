/- The walk of the law FnEngineReverse (gen15/laweng_rev.py). -/
import Derived.Test.YtaaffpolmecicabGreatLawEngNew
import Derived.Test.YtaaffpolmecicabGreatEngR
import Derived.Test.YtaaffpolmecicabGreatImplE

import Derived.Test.YtaaffpolmecicabGreatImplTries
namespace Go.Proofs.YtaaffpolmecicabGreat
open Go.RowKit
set_option linter.unusedVariables false
set_option linter.unusedSimpArgs false
theorem fresh_any (S:List Ent) (L:List Acn):EngOk (engOfM S L)∧∀ m,stg (engOfM S L) m=0∧triesAt (engOfM S L) m=0:=by
 cases hh:(storeB S && actsB L) with
 | false =>
  rw [engOfM_no hh]
  exact ⟨(engB_iff _).1 (by decide),fun m=>⟨rfl,rfl⟩⟩
 | true =>
  obtain ⟨h1,h2⟩:=(Bool.and_eq_true _ _).mp hh
  refine ⟨fresh_ok h1 h2,fun m=>?_⟩
  rw [engOfM_yes h1 h2]
  unfold stg triesAt
  show ((List.replicate L.length noSlt).getD m noSlt).stage=0∧((List.replicate L.length noSlt).getD m noSlt).tries=0
  rw [getD_fresh];exact ⟨rfl,rfl⟩
theorem revL_next (n j:Nat) (h:j < n):(revL n).take (j+1)=(revL n).take j++[(n:Int) - 1 - j]:=by
 rw [← revL_get n j h,List.take_succ_eq_append_getElem (by rw [revL_len];exact h),List.getD_eq_getElem?_getD,List.getElem?_eq_getElem (by rw [revL_len];exact h)];rfl
theorem infoIntV:(Tryz.prog.info? 3).map (fun i=>(i.zero,i.size,i.bytes))=some (some (.int .i64 0),1,8):=by kernel_rfl
set_option maxRecDepth 100000 in
set_option maxHeartbeats 8000000 in
theorem lawEngineReverse (a:Option Addr) (len cap:Nat) (z:List Int) (w:World) (h:RowB w a len z) (hc:a=none→cap=0) (hlc:len≤cap) :
  Calls Tryz.prog 5 #[.slice a len cap] w (LawTrue w):=by
 by_cases hs:len≤1048576
 · have hs':¬ (1048576:Int) < (len:Int):=by omega
   go_enter Tryz.func5,Tryz.ntmps5
   go_wp2_with fail
   refine (drawEngineOf_any a len cap z w h hlc).mono ?_;rintro e w1 ⟨gS,cS,S,gA,cA,L,rfl,hrS,hSl,hrA,hlA,hl20,hb1⟩
   have HRS:=Lib.hid (fun W (hb:Below w1.heap.size w1 W)=>hrS.below hb)
   have HRA:=Lib.hid (fun W (hb:Below w1.heap.size w1 W)=>hrA.below hb)
   have HB1:=Lib.hid hb1
   obtain ⟨E,hE⟩:∃ E,E=engOfM S L:=⟨_,rfl⟩
   have HE:=Lib.hid hE
   have HFR:Hid (EngOk E∧∀ m,stg E m=0∧triesAt E m=0):=Lib.hid (by rw [hE];exact fresh_any S L)
   clear h hs hs' hc hrS hrA hb1 hE hlA
   go_wp2_with fail
   refine (engineOf_impl _ _ _ S _ _ _ L _ (HRS.out _ (Below.refl _ _)) (fun h=>by cases h) (HRA.out _ (Below.refl _ _)) (fun h=>by cases h)).mono ?_;rintro e w2 ⟨q1,q2,q3,q4,ts1,rfl,ho2,hb2⟩
   rw [← HE.out] at ho2
   obtain ⟨e1,i1,j1,e2,i2,j2,e3,i3,j3,e4,i4,j4,rfl,rfl,rfl,rfl⟩:=newEng_formN ho2
   have HO2:=Lib.hid ho2
   have HB2:=Lib.hid hb2
   clear ho2 hb2
   go_upto_region 5 with (fail)
   generalize hw3:World.alloc _ _=w3
   have hb3:Below w2.heap.size w2 w3:=by rw [← hw3];exact (Below.refl _ _).alloc (Nat.le_refl _) _
   have hZ:EgAt w3 w2.heap.size (.slice e1 i1 j1) (.slice e2 i2 j2) (.slice e3 i3 j3) (.slice e4 i4 j4):=by rw [← hw3];exact egAt_new w2 _ _ _ _ _
   have HO3:=Lib.hid (HO2.out.below hb3)
   have HB3:=Lib.hid (HB2.out.trans (hb3.mono HB2.out.size))
   have HZ3:=Lib.hid hZ
   obtain ⟨Z,hZe⟩:∃ Z,Z=w2.heap.size:=⟨_,rfl⟩
   rw [← hZe] at HZ3 ⊢
   clear hw3 hb3 hZ hZe HO2 HB2
   have hzl:=HZ3.out.lt
   obtain ⟨m0,m1,m2,m3,-⟩:=HZ3.out
   have HKP:=Lib.hid (fun W' (hb:Below w3.heap.size w3 W')=>(⟨below_cell hb hzl m0,below_cell hb hzl m1,below_cell hb hzl m2,below_cell hb hzl m3⟩ : _∧_∧_∧_))
   go_region_held3 (fun w'=>w'.cell? ⟨Z,0,none⟩=some (.slice e1 i1 j1)∧w'.cell? ⟨Z,1,none⟩=some (.slice e2 i2 j2)∧w'.cell? ⟨Z,2,none⟩=some (.slice e3 i3 j3)∧w'.cell? ⟨Z,3,none⟩=some (.slice e4 i4 j4)) (first | exact ⟨m0,m1,m2,m3⟩ | exact hkp | exact hkp2 | go_keep)
    (first | (go_at_call 40;refine (engineOf_spec _ _ _ S _ _ _ L w3.drew (HRS.out _ (HB3.out.trans (((Below.refl w3.heap.size w3).drew).mono HB3.out.size))) (fun h=>by cases h) (HRA.out _ (HB3.out.trans (((Below.refl w3.heap.size w3).drew).mono HB3.out.size))) (fun h=>by cases h)).mono ?_;rintro en w4 ⟨g1,g2,g3,g4,ts0,rfl,ho4,hb4'⟩;rw [← HE.out] at ho4;obtain ⟨f1,h1,k1,f2,h2,k2,f3,h3,k3,f4,h4,k4,rfl,rfl,rfl,rfl⟩:=newEng_formN ho4;have hb4:=(Below.refl w3.heap.size w3).drew.trans hb4';have hkp:=HKP.out _ hb4) | (go_at_call 39;refine (sameEngine_same _ _ _ _ _ _ _ _ E _ (HO3.out.below hb4).rd ho4.rd).mono ?_;rintro en w5 ⟨rfl,hb5'⟩;have hb5:=hb4.trans (hb5'.mono hb4.size);have hkp2:=HKP.out _ hb5))
   have HO5:=Lib.hid (HO3.out.below hb5)
   have HZ5:=Lib.hid (HZ3.out.below hb5)
   have HB5:=Lib.hid (HB3.out.trans (hb5.mono HB3.out.size))
   clear hkp hkp2 hb5 hb5' hb4 hb4' ho4 m0 m1 m2 m3 hzl HKP HO3 HZ3 HB3
   have hl4:E.slots.length=i4:=(engRd_lens HO5.out.rd).2
   have HREV:=Lib.hid (eng_reverse HFR.out.1 hl4 HFR.out.2)
   have HI10:Hid (i4≤10):=Lib.hid (by rw [← hl4];exact HFR.out.1.ten)
   have hi10:=HI10.out
   obtain ⟨m0,m1,m2,m3,-⟩:=HZ5.out
   have hzl:=HZ5.out.lt
   have hw1:IntKind.i64.wrap ((i4:Int) - 1)=(i4:Int) - 1:=IntWalk.i64_in _ (by omega)
   have ho6:Own (w5.alloc (.cells #[] 3)) w5.heap.size 3 1 (.slice (some ⟨w5.heap.size,0,none⟩) 0 0) 0 []:=own_lit 3 1 #[] 0 (Nat.le_refl _) (by simp) rfl
   have hb6:=(Below.refl w5.heap.size w5).alloc (Nat.le_refl _) (.cells #[] 3)
   clear hl4
   go_wp2_with fail
   clear m0 m1 m2 m3 hzl
   go_loopw [6,7] (fun v k wr=>∃ j:Nat,j≤i4∧k = .int .i64 ((i4:Int) - 1 - j)∧Own wr w5.heap.size 3 1 v j (((revL i4).take j).map (Value.int .i64))∧Below w5.heap.size w5 wr) (fun _ k _=>(intOf k+1).toNat)
   case atStart=>exact ⟨0,Nat.zero_le _,by simp,by simpa using ho6,hb6⟩
   case round =>
    clear ho6 hb6
    obtain ⟨j,hj,rfl,ho,hb⟩:=hrel
    by_cases hlt:j < i4
    · have hd:decide ((0:Int)≤(i4:Int) - 1 - j)=true:=by simp;omega
      have hw2:IntKind.i64.wrap ((i4:Int) - 1 - j - 1)=(i4:Int) - 1 - j - 1:=IntWalk.i64_in _ (by omega)
      have HNX:=Lib.hid (revL_next i4 j hlt)
      have hsz:=hb.size
      obtain ⟨q,hq⟩:∃ q,q=(i4:Int) - 1 - j:=⟨_,rfl⟩
      have HQ:=Lib.hid hq
      rw [← hq] at hd hw2 HNX ⊢
      clear hq
      go_wp2_with (at_builtin;refine wpList_append_one rfl _ _ 65 rfl w5.heap.size 3 _ (.int .i64 0) 1 8 Tryz.underlying65 infoIntV rfl (by decide) _ _ _ [.int .i64 q] (by rfl) ho (by rfl) rfl ?c1 ?c2 (by decide) ?c3 ?_)
      case c1=>intro u hu;simp at hu;subst hu;rfl
      case c2=>omega
      case c3=>exact hsz
      intro v3 w7 ho3 hg3
      have HO:=Lib.hid ho3
      have HB:=Lib.hid ((hb.alloc hsz _).grown hg3 (by simp;omega) (fun p hp=>(ho.1.lt p hp).1))
      clear ho ho3 hg3 hb
      go_wp2
      go_roundw
      case rel=>exact ⟨j+1,by omega,by rw [HQ.out];congr 1;omega,by have:=HO.out;rw [HNX.out,List.map_append,List.map_take];exact this,HB.out⟩
      case measure=>simp [intOf];have:=HQ.out;omega
    · obtain rfl:j=i4:=by omega
      have hd:decide ((0:Int)≤(j:Int) - 1 - j)=false:=by simp;omega
      have hta:(revL j).take j=revL j:=List.take_of_length_le (by rw [revL_len];exact Nat.le_refl _)
      rw [hta] at ho
      have hrw:∀ x∈revL j,(Lit.int .i64 x).wf=true:=fun x hx=>by
       obtain ⟨y,hy,rfl⟩:=List.mem_map.1 hx
       have:=List.mem_range.1 hy
       exact WalkArith.wf_i64 (by omega)
      obtain ⟨gg,cg,rfl,-,-⟩:=ho.slice
      have ho':Own wr w5.heap.size 3 1 (.slice (some ⟨gg,0,none⟩) j cg) (revL j).length ((revL j).map (Value.int .i64)):=by rw [revL_len];exact ho
      have hri:RowI wr (some ⟨gg,0,none⟩) (revL j).length (revL j):=by
       obtain ⟨g',c',he,-,-,hr⟩:=rowI_of_own ho' (by rw [revL_len];omega) hrw
       simp only [Value.slice.injEq,Option.some.injEq,Addr.mk.injEq,and_true] at he
       obtain ⟨rfl,-,-⟩:=he
       exact hr
      have HRI:=Lib.hid hri
      have HB6:=Lib.hid hb
      have HO6:=Lib.hid (HO5.out.below hb)
      obtain ⟨m0,m1,m2,m3,-⟩:=HZ5.out.below hb
      have hlj:=revL_len j
      obtain ⟨RL,hRL⟩:∃ RL,RL=revL j:=⟨_,rfl⟩
      rw [← hRL] at HRI HREV hlj
      clear hta hrw ho' ho hri hb hRL hw1
      go_wp2_with fail
      refine (engineRun_impl _ _ _ _ E _ j cg RL _ HO6.out.rd (by have:=HRI.out;rw [hlj] at this;exact this)).mono ?_;rintro en w7 ⟨x1,x2,x3,x4,tsx,rfl,ho7,hb7⟩
      obtain ⟨p01,p02,p03,p11,p12,p13,p21,p22,p23,p31,p32,p33,rfl,rfl,rfl,rfl⟩:=newEng_formN ho7
      rw [HREV.out.1]
      obtain ⟨ex,hex⟩:∃ ex,ex=(eRunM E RL).1:=⟨_,rfl⟩
      rw [← hex] at ho7 HREV
      have HO7:=Lib.hid ho7
      have HB7:=Lib.hid (HB6.out.trans (hb7.mono HB6.out.size))
      clear m0 m1 m2 m3 ho7 hb7 hex HB6 HO6 HRI
      go_upto_region 13 with (fail)
      generalize hw8:World.alloc _ _=w8
      have hb8:Below w7.heap.size w7 w8:=by rw [← hw8];exact (Below.refl _ _).alloc (Nat.le_refl _) _
      have hX8:EgAt w8 w7.heap.size (.slice p01 p02 p03) (.slice p11 p12 p13) (.slice p21 p22 p23) (.slice p31 p32 p33):=by rw [← hw8];exact egAt_new w7 _ _ _ _ _
      have HO8:=Lib.hid (HO7.out.below hb8)
      have HB8:=Lib.hid (HB7.out.trans (hb8.mono HB7.out.size))
      have HX8:=Lib.hid hX8
      obtain ⟨X,hXe⟩:∃ X,X=w7.heap.size:=⟨_,rfl⟩
      rw [← hXe] at HX8 ⊢
      clear hw8 hb8 hX8 hXe HO7 HB7
      obtain ⟨m0,m1,m2,m3,-⟩:=HX8.out
      go_wp2_with fail
      refine (engineFinish_impl _ _ _ _ ex _ HO8.out.rd).mono ?_;rintro en w9 ⟨y1,y2,y3,y4,tsy,rfl,ho9,hb9⟩
      obtain ⟨t01,t02,t03,t11,t12,t13,t21,t22,t23,t31,t32,t33,rfl,rfl,rfl,rfl⟩:=newEng_formN ho9
      obtain ⟨ey,hey⟩:∃ ey,ey=(eFinM ex).1:=⟨_,rfl⟩
      obtain ⟨cy,hcy⟩:∃ cy,cy=(eFinM ex).2:=⟨_,rfl⟩
      rw [← hey] at ho9 HREV
      rw [← hcy]
      have HO9:=Lib.hid ho9
      have HB9:=Lib.hid (HB8.out.trans (hb9.mono HB8.out.size))
      have HX9:=Lib.hid (HX8.out.below hb9)
      have HOX9:=Lib.hid (HO8.out.below hb9)
      clear m0 m1 m2 m3 ho9 hb9 hey hcy HB8 HX8 HO8
      go_upto_region 14 with (fail)
      generalize hw10:World.alloc _ _=w10
      have hb10:Below w9.heap.size w9 w10:=by rw [← hw10];exact (Below.refl _ _).alloc (Nat.le_refl _) _
      have hY10:EgAt w10 w9.heap.size (.slice t01 t02 t03) (.slice t11 t12 t13) (.slice t21 t22 t23) (.slice t31 t32 t33):=by rw [← hw10];exact egAt_new w9 _ _ _ _ _
      have HB10:=Lib.hid (HB9.out.trans (hb10.mono HB9.out.size))
      have HX10:=Lib.hid (HX9.out.below hb10)
      have HOX10:=Lib.hid (HOX9.out.below hb10)
      have HOY10:=Lib.hid (HO9.out.below hb10)
      have HY10:=Lib.hid hY10
      obtain ⟨Y,hYe⟩:∃ Y,Y=w9.heap.size:=⟨_,rfl⟩
      rw [← hYe] at HY10 ⊢
      clear hw10 hb10 hY10 hYe HB9 HX9 HOX9 HO9
      have HZ10:=Lib.hid (HZ5.out.below HB10.out)
      have HKP:=Lib.hid (fun (w':World) (hb:Below w10.heap.size w10 w')=>(⟨(HZ10.out.below hb).c3,⟨(HX10.out.below hb).c0,(HX10.out.below hb).c1,(HX10.out.below hb).c2,(HX10.out.below hb).c3⟩,(HY10.out.below hb).c0,(HY10.out.below hb).c1,(HY10.out.below hb).c2,(HY10.out.below hb).c3⟩:w'.cell? ⟨Z,3,none⟩=some (.slice e4 j j4)∧(w'.cell? ⟨X,0,none⟩=some (.slice p01 p02 p03)∧w'.cell? ⟨X,1,none⟩=some (.slice p11 p12 p13)∧w'.cell? ⟨X,2,none⟩=some (.slice p21 p22 p23)∧w'.cell? ⟨X,3,none⟩=some (.slice p31 p32 p33))∧w'.cell? ⟨Y,0,none⟩=some (.slice t01 t02 t03)∧w'.cell? ⟨Y,1,none⟩=some (.slice t11 t12 t13)∧w'.cell? ⟨Y,2,none⟩=some (.slice t21 t22 t23)∧w'.cell? ⟨Y,3,none⟩=some (.slice t31 t32 t33)))
      have hkp0:=HKP.out w10 (Below.refl _ _)
      have HT1:=Lib.hid (show Calls Tryz.prog 43 #[.agg #[.slice p01 p02 p03,.slice p11 p12 p13,.slice p21 p22 p23,.slice p31 p32 p33]] w10.drew (IntB (j:Int) w10.drew) by have:=triesOf_impl _ _ _ _ ex w10.drew (HOX10.out.below (Below.refl _ _).drew).rd;rw [HREV.out.2.1] at this;exact this)
      obtain ⟨ty,hty⟩:∃ ty,ty=triesM ey:=⟨_,rfl⟩
      have HT2:=Lib.hid (fun (W:World) (hb:Below w10.heap.size w10 W)=>(by have:=triesOf_impl _ _ _ _ ey W (HOY10.out.below hb).rd;rw [← hty] at this;exact this:Calls Tryz.prog 43 #[.agg #[.slice t01 t02 t03,.slice t11 t12 t13,.slice t21 t22 t23,.slice t31 t32 t33]] W (IntB ty W)))
      have hty2:ty≤2*(j:Int):=by rw [hty];exact HREV.out.2.2
      have t1:((j:Int) == (j:Int))=true:=by simp
      have t2:IntKind.i64.wrap (2*(j:Int))=2*(j:Int):=IntWalk.i64_in _ (by omega)
      have t3:decide (ty≤2*(j:Int))=true:=by simpa using hty2
      clear hty hty2 hlj
      go_region_held3 (fun w'=>w'.cell? ⟨Z,3,none⟩=some (.slice e4 j j4)∧(w'.cell? ⟨X,0,none⟩=some (.slice p01 p02 p03)∧w'.cell? ⟨X,1,none⟩=some (.slice p11 p12 p13)∧w'.cell? ⟨X,2,none⟩=some (.slice p21 p22 p23)∧w'.cell? ⟨X,3,none⟩=some (.slice p31 p32 p33))∧w'.cell? ⟨Y,0,none⟩=some (.slice t01 t02 t03)∧w'.cell? ⟨Y,1,none⟩=some (.slice t11 t12 t13)∧w'.cell? ⟨Y,2,none⟩=some (.slice t21 t22 t23)∧w'.cell? ⟨Y,3,none⟩=some (.slice t31 t32 t33)) (first | exact hkp0 | exact hkp | exact hkp2 | exact hkp3 | go_keep)
       (first
        | (go_at_call 43;(with_reducible refine HT1.out.mono ?_);rintro en1 w11 ⟨rfl,hb11'⟩;have hb11:=(Below.refl w10.heap.size w10).drew.trans hb11';have hkp:=HKP.out _ hb11)
        | (go_at_call 43;(with_reducible refine (HT2.out w11 hb11).mono ?_);rintro en2 w12 ⟨rfl,hb12'⟩;have hb12:=hb11.trans (hb12'.mono hb11.size);have hkp2:=HKP.out _ hb12)
        | (go_at_call 21;(with_reducible refine (alive_any w12).mono ?_);rintro en3 w13 ⟨rfl,hb13'⟩;have hb13:=hb12.trans (hb13'.mono hb12.size);have hkp3:=HKP.out _ hb13))
      have HBF:=Lib.hid (HB1.out.trans ((HB5.out.trans ((HB10.out.trans (hb13.mono HB10.out.size)).mono HB5.out.size)).mono HB1.out.size))
      clear hkp0 hkp hkp2 hkp3 hb11 hb11' hb12 hb12' hb13 hb13'
      go_wp2
      go_ret
      exact ⟨rfl,HBF.out⟩
 · have hs':(1048576:Int) < (len:Int):=by omega
   clear h hlc
   go_enter Tryz.func5,Tryz.ntmps5
   go_wp2
   go_ret
   exact ⟨rfl,Below.refl _ _⟩
end Go.Proofs.YtaaffpolmecicabGreat

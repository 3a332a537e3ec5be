/- The walk of the law FnEngineValid (gen15/). -/
import Derived.Test.YtaaffpolmecicabGreatTenB
import Derived.Test.YtaaffpolmecicabGreatEngLaw
import Derived.Test.YtaaffpolmecicabGreatDrawEng3
import Derived.Test.YtaaffpolmecicabGreatSameEng
import Derived.Test.YtaaffpolmecicabGreatEngLaw2
import Derived.Test.YtaaffpolmecicabGreatOne
namespace Go.Proofs.YtaaffpolmecicabGreat
open Go.RowKit
set_option linter.unusedVariables false
set_option linter.unusedSimpArgs false
theorem infoVerV:(Tryz.prog.info? 73).map (fun i=>(i.zero,i.size,i.bytes))=some (some (.agg #[.int .i64 0,.int .i64 0,.int .i64 0]),3,24):=by kernel_rfl
theorem flatV_oneE (l:List Ver):∀ u∈flatV l,u.oneCell'=true:=by
 intro u hu
 obtain ⟨x,-,hx⟩:=List.mem_flatMap.1 hu
 simp [celV] at hx
 rcases hx with rfl | rfl | rfl <;> rfl
theorem flatV_lenV (l:List Ver):(flatV l).length=l.length*3:=by
 induction l with
 | nil=>rfl
 | cons x t ih =>
  have:flatV (x :: t)=celV x++flatV t:=rfl
  rw [this,List.length_append,ih]
  simp [celV];omega
theorem engRd_vers {w:World} {a1 a2 a3 a4:Option Addr} {n1 n2 n3 n4 c1 c2 c3 c4:Nat} {e:Eng} (h:EngRd w (.slice a1 n1 c1) (.slice a2 n2 c2) (.slice a3 n3 c3) (.slice a4 n4 c4) e):RowV w a3 n3 e.vers∧(a3=none→n3=0∧c3=0):=by
 obtain ⟨-,-,⟨_,_,_,h3,r3,r4,r5⟩,-⟩:=h
 simp only [Value.slice.injEq] at h3
 obtain ⟨rfl,rfl,rfl⟩:=h3
 exact ⟨r3,fun h=>by have:=r4 h;omega⟩
set_option maxRecDepth 100000 in
set_option maxHeartbeats 8000000 in
theorem lawEngineValid (a:Option Addr) (len cap:Nat) (z:List Int) (w:World) (h:RowB w a len z) (hc:a=none→cap=0) (hlc:len≤cap) :
  Calls Tryz.prog 6 #[.slice a len cap] w (LawTrue w):=by
 by_cases hs:len≤1048576
 · have hs':¬ (1048576:Int) < (len:Int):=by omega
   go_enter Tryz.func6,Tryz.ntmps6
   go_wp2_with fail
   refine (drawEngineValid_any a len cap z w h hlc).mono ?_;rintro e w1 ⟨e01,e02,e03,e11,e12,e13,e21,e22,e23,e31,e32,e33,E,rfl,hrd,hsm,hb1⟩
   have HRD:=Lib.hid hrd
   have HSM:=Lib.hid hsm
   have HB1:=Lib.hid hb1
   clear h hs hs' hc hlc hrd hb1 hsm
   go_upto_region 4 with (fail)
   generalize hw2:World.alloc _ _=w2
   have hb2:Below w1.heap.size w1 w2:=by rw [← hw2];exact (Below.refl _ _).alloc (Nat.le_refl _) _
   have hX2:EgAt w2 w1.heap.size (.slice e01 e02 e03) (.slice e11 e12 e13) (.slice e21 e22 e23) (.slice e31 e32 e33):=by rw [← hw2];exact egAt_new w1 _ _ _ _ _
   have HWD:=Lib.hid (fun (W:World) (hb:Below w2.heap.size w2 W)=>HRD.out W (hb2.trans (hb.mono hb2.size)))
   have HK:=Lib.hid (fun (W:World) (hb:Below w2.heap.size w2 W)=>(⟨hX2.below hb,HRD.out W (hb2.trans (hb.mono hb2.size)),HB1.out.trans ((hb2.trans (hb.mono hb2.size)).mono HB1.out.size)⟩:EgAt W w1.heap.size (.slice e01 e02 e03) (.slice e11 e12 e13) (.slice e21 e22 e23) (.slice e31 e32 e33)∧EngRd W (.slice e01 e02 e03) (.slice e11 e12 e13) (.slice e21 e22 e23) (.slice e31 e32 e33) E∧Below w.heap.size w W))
   obtain ⟨Z,hZe⟩:∃ Z,Z=w1.heap.size:=⟨_,rfl⟩
   rw [← hZe] at HK ⊢
   clear hw2 hb2 hX2 hZe HRD HB1
   obtain ⟨ok,hok⟩:∃ ok,ok=engB E:=⟨_,rfl⟩
   have HN:=Lib.hid hok
   have hcc:(ok != ok)=false:=by cases ok <;> rfl
   clear hok
   obtain ⟨⟨m0,m1,m2,m3,-⟩,hr2,-⟩:=HK.out w2 (Below.refl _ _)
   have HC:=Lib.hid (engineValid_impl _ _ _ _ E w2 hr2)
   rw [← HN.out] at HC
   clear hr2
   go_wp2_with fail
   refine HC.out.mono ?_;rintro en w3 ⟨rfl,hb3⟩
   have HB3:=Lib.hid hb3
   clear m0 m1 m2 m3 HC hb3
   obtain ⟨⟨m0,m1,m2,m3,-⟩,hr3,-⟩:=HK.out w3 HB3.out
   have HC:=Lib.hid (engineValid_spec _ _ _ _ E w3 hr3)
   rw [← HN.out] at HC
   clear hr3
   go_wp2_with fail
   refine HC.out.mono ?_;rintro en w4 ⟨rfl,hb4⟩
   have HB4:=Lib.hid (HB3.out.trans (hb4.mono HB3.out.size))
   clear m0 m1 m2 m3 HC hb4
   obtain ⟨⟨m0,m1,m2,m3,-⟩,-,-⟩:=HK.out w4 HB4.out
   go_upto_region 8 with (fail)
   generalize hw5:World.alloc _ _=w5
   have hb5:Below w4.heap.size w4 w5:=by rw [← hw5];exact (Below.refl _ _).alloc (Nat.le_refl _) _
   have hX5:EgAt w5 w4.heap.size (.slice e01 e02 e03) (.slice e11 e12 e13) (.slice e21 e22 e23) (.slice e31 e32 e33):=by rw [← hw5];exact egAt_new w4 _ _ _ _ _
   have HB5:=Lib.hid (HB4.out.trans (hb5.mono HB4.out.size))
   have HX5:=Lib.hid hX5
   obtain ⟨X,hXe⟩:∃ X,X=w4.heap.size:=⟨_,rfl⟩
   have HXS:Hid (w2.heap.size≤X∧X < w5.heap.size):=Lib.hid ⟨by rw [hXe];exact HB4.out.size,by rw [hXe];exact hX5.lt⟩
   rw [← hXe] at HX5 ⊢
   clear hw5 hb5 hX5 hXe m0 m1 m2 m3
   have ho5:=own_lit (w:=w5) (B:=w5.heap.size) 73 3 #[] 0 (Nat.le_refl _) (by unfold maxLen;omega) rfl
   have hb6:=(Below.refl w5.heap.size w5).alloc (Nat.le_refl _) (.cells #[] 73)
   have hv5:=engRd_vers (HWD.out _ (HB5.out.trans (hb6.mono HB5.out.size)))
   have HNL:=Lib.hid hv5.2
   have HRV:=Lib.hid hv5.1
   have HVL:Hid (E.vers.length=e22∧e22≤321):=Lib.hid ⟨hv5.1.1,by rw [← hv5.1.1];exact HSM.out.vers⟩
   have HLN:Hid ((flatV E.vers).length=e22*3):=Lib.hid (by rw [flatV_lenV,HVL.out.1])
   have HWV:Hid (WfVs E.vers):=Lib.hid hv5.1.2.2.2
   clear hv5
   have hzl:Z < w5.heap.size:=(HK.out w5 HB5.out).1.lt
   obtain ⟨⟨-,-,m2,-⟩,-,-⟩:=HK.out w5 HB5.out
   obtain ⟨-,-,n2,-,-,-,f2,-⟩:=HX5.out
   have hx5:=HX5.out.lt
   go_upto_region 9 with (first
    | (at_builtin;refine wpList_append_rows rfl _ _ 35 rfl w5.heap.size 73 (.agg #[.int .i64 0,.int .i64 0,.int .i64 0]) 3 24 Tryz.underlying35 infoVerV rfl (by decide) _ 0 [] (flatV E.vers) (by rfl) ho5 e21 e22 e23 (by rfl) HNL.out HLN.out HRV.out.news (flatV_oneE E.vers) (by have:=HVL.out;omega) (by decide) (by simp) ?_;intro v6 w6 ho6 hg6;have hb7:=hb6.grown hg6 (by simp) (fun q hq=>(ho5.1.lt q hq).1);have hx6:=HX5.out.below hb7;obtain ⟨-,-,n2',-,-,-,f2',-⟩:=hx6;have hs6:=hb7.size)
    | (at_builtin;refine wpList_append_one rfl _ _ 35 rfl w5.heap.size 73 _ (.agg #[.int .i64 0,.int .i64 0,.int .i64 0]) 3 24 Tryz.underlying35 infoVerV rfl (by decide) _ _ _ [.int .i64 31,.int .i64 9,.int .i64 1] (by rfl) ho6 (by rfl) rfl (by intro u hu;simp at hu;rcases hu with rfl | rfl | rfl <;> rfl) (by have:=HVL.out;omega) (by decide) hs6 ?_;intro v7 w7 ho7 hg7;have hb8:=(hb7.alloc hs6 (.cells #[.int .i64 31,.int .i64 9,.int .i64 1] 73)).grown hg7 (by simp;omega) (fun q hq=>(ho6.1.lt q hq).1);obtain ⟨g7,c7,rfl,-,-⟩:=Own.slice ho7;have hx7:=HX5.out.below hb8;obtain ⟨-,-,n2'',-,-,-,f2'',-⟩:=hx7;have HO7:=Lib.hid ho7;have HB7:=Lib.hid hb8;clear ho7 hg7 hb8 ho6 hg6 hb7))
   generalize hw8:World.setCell _ _ _=w8
   have hB8:Below w2.heap.size w2 w8:=by rw [← hw8];exact (HB5.out.trans (HB7.out.mono HB5.out.size)).setCell HXS.out.1 _
   have hX8:EgAt w8 X (.slice e01 e02 e03) (.slice e11 e12 e13) (.slice (some ⟨g7,0,none⟩) (e22+1) c7) (.slice e31 e32 e33):=by rw [← hw8];exact (HX5.out.below HB7.out).set2 _
   have hO8:Own w8 w5.heap.size 73 3 (.slice (some ⟨g7,0,none⟩) (e22+1) c7) (e22+1) ([]++flatV E.vers++[.int .i64 31,.int .i64 9,.int .i64 1]):=by rw [← hw8];have:=HO7.out;simp only [Nat.zero_add] at this;exact own_storeZ this HXS.out.2 2 _
   have hE8:=HWD.out w8 hB8
   have hln:(E.vers++[(⟨31,9,1⟩:Ver)]).length=e22+1:=by have:=HVL.out.1;simp only [List.length_append,List.length_cons,List.length_nil];omega
   have hfl:flatV (E.vers++[(⟨31,9,1⟩:Ver)])=[]++flatV E.vers++[.int .i64 31,.int .i64 9,.int .i64 1]:=by rw [flatV_append];rfl
   have hV8:SliV w8 (.slice (some ⟨g7,0,none⟩) (e22+1) c7) (E.vers++[(⟨31,9,1⟩:Ver)]):=sliV_of_owns (B:=w5.heap.size) (e:=73) (by rw [hln,hfl];exact hO8.1) (HWV.out.snoc ⟨rfl,rfl,rfl⟩) (by have:=HVL.out.2;rw [hln];omega)
   have HR8:Hid (EngRd w8 (.slice e01 e02 e03) (.slice e11 e12 e13) (.slice (some ⟨g7,0,none⟩) (e22+1) c7) (.slice e31 e32 e33) ⟨E.base,E.list,E.vers++[⟨31,9,1⟩],E.slots⟩):=Lib.hid ⟨hE8.base,hE8.list,hV8,hE8.slots⟩
   have HB8:=Lib.hid hB8
   have HX8:=Lib.hid hX8
   clear ho5 hb6 hw8 hB8 hX8 hO8 hE8 hln hfl hV8 m2 n2 f2 hx5 hzl
   try clear n2' f2' hs6
   try clear n2'' f2''
   cases ok with
   | false =>
    go_wp2_with fail
    refine (alive_any _).mono ?_;rintro en w9 ⟨rfl,hb9⟩
    have HBF:=Lib.hid (HK.out w9 (HB8.out.trans (hb9.mono HB8.out.size))).2.2
    clear hb9
    go_wp2
    go_ret
    exact ⟨rfl,HBF.out⟩
   | true =>
    obtain ⟨m0,m1,m2,m3,-⟩:=HX8.out
    have HC:=Lib.hid (engineValid_impl _ _ _ _ _ w8 HR8.out)
    rw [engB_more HN.out.symm ⟨31,9,1⟩] at HC
    go_wp2_with fail
    refine HC.out.mono ?_;rintro en w9 ⟨rfl,hb9⟩
    have HB9:=Lib.hid (HB8.out.trans (hb9.mono HB8.out.size))
    clear m0 m1 m2 m3 HC hb9
    go_wp2_with fail
    refine (alive_any _).mono ?_;rintro en w10 ⟨rfl,hb10⟩
    have HBF:=Lib.hid (HK.out w10 (HB9.out.trans (hb10.mono HB9.out.size))).2.2
    clear hb10
    go_wp2
    go_ret
    exact ⟨rfl,HBF.out⟩
 · have hs':(1048576:Int) < (len:Int):=by omega
   clear h hlc
   go_enter Tryz.func6,Tryz.ntmps6
   go_wp2
   go_ret
   exact ⟨rfl,Below.refl _ _⟩
end Go.Proofs.YtaaffpolmecicabGreat

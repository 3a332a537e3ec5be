/- The walk of the law FnBlockSum (gen18/lawbks.py). -/
import Derived.Test.YtolhdacbahgfgabDrawBk
import Derived.Test.YtolhdacbahgfgabBkI
import Derived.Test.YtolhdacbahgfgabSpB

import Derived.Test.YtolhdacbahgfgabOne
import Derived.Deep.Cut
namespace Go.Proofs.Ytolhdacbahgfgab
open Go.RowKit
set_option linter.unusedVariables false
set_option linter.unusedSimpArgs false
theorem sum_hgt {p q q' r t u:Int} {L:List Acn} (h:blkB ⟨p,q,r,L,t,u⟩=true) (hd:q'=q+1∨q'=q - 1):blkSumM ⟨p,q',r,L,t,u⟩≠blkSumM ⟨p,q,r,L,t,u⟩:=by
 cases h':blkB ⟨p,q',r,L,t,u⟩ with
 | false=>rw [blkSumM_no h'];have:=blkSumM_nn h;omega
 | true =>
  rw [blkSumM_yes h',blkSumM_yes h]
  exact sumFold_set (17+5) (blkNums ⟨p,q,r,L,t,u⟩) 1 q' (by simp [blkNums,blkTo]) (by decide) (by decide) hd
theorem sum_view {p q r r' t u:Int} {L:List Acn} (h:blkB ⟨p,q,r,L,t,u⟩=true) (hd:r'=r+1∨r'=r - 1):blkSumM ⟨p,q,r',L,t,u⟩≠blkSumM ⟨p,q,r,L,t,u⟩:=by
 cases h':blkB ⟨p,q,r',L,t,u⟩ with
 | false=>rw [blkSumM_no h'];have:=blkSumM_nn h;omega
 | true =>
  rw [blkSumM_yes h',blkSumM_yes h]
  exact sumFold_set (17+5) (blkNums ⟨p,q,r,L,t,u⟩) 2 r' (by simp [blkNums,blkTo]) (by decide) (by decide) hd
theorem sum_root {p q r t t' u:Int} {L:List Acn} (h:blkB ⟨p,q,r,L,t,u⟩=true) (hd:t'=t+1∨t'=t - 1):blkSumM ⟨p,q,r,L,t',u⟩≠blkSumM ⟨p,q,r,L,t,u⟩:=by
 cases h':blkB ⟨p,q,r,L,t',u⟩ with
 | false=>rw [blkSumM_no h'];have:=blkSumM_nn h;omega
 | true =>
  rw [blkSumM_yes h',blkSumM_yes h]
  have e:blkNums ⟨p,q,r,L,t',u⟩=(blkNums ⟨p,q,r,L,t,u⟩).set (blkTo ⟨p,q,r,L,t,u⟩ L.length).length t':=by
   simp [blkNums,blkTo,List.set_append]
  rw [e]
  exact sumFold_set (17+5) (blkNums ⟨p,q,r,L,t,u⟩) _ t' (by simp [blkNums]) (by decide) (by decide) (by simp only [blkNums];rw [List.getD_eq_getElem?_getD,List.getElem?_append_right (Nat.le_refl _)];simpa using hd)
set_option maxRecDepth 100000 in
set_option maxHeartbeats 8000000 in
theorem lawBlockSum (a:Option Addr) (len cap:Nat) (z:List Int) (w:World) (h:RowB w a len z) (hc:a=none→cap=0) (hlc:len≤cap) :
  Calls Try.prog 4 #[.slice a len cap] w (LawTrue w):=by
 by_cases hs:len≤1048576
 · have hs':¬ (1048576:Int) < (len:Int):=by omega
   go_enter Try.func4,Try.ntmps4
   go_wp2_with fail
   refine (drawBlockSum_any a len cap z w h hlc).mono ?_;rintro e w1 ⟨p,q,r,a9,n,c,t,u,L,rfl,hra,hl,hb1⟩
   have HB1:=Lib.hid hb1
   have HRA:=Lib.hid hra
   clear h hs hs' hc hlc hb1 hra
   go_upto_region 4 with (fail)
   generalize hw2:World.alloc _ _=w2
   have hb2:Below w1.heap.size w1 w2:=by rw [← hw2];exact (Below.refl _ _).alloc (Nat.le_refl _) _
   have hX2:BkAt w2 w1.heap.size (.int .i64 p) (.int .i64 q) (.int .i64 r) (.slice a9 n c) (.int .i64 t) (.int .i64 u):=by rw [← hw2];exact bkAt_new w1 _ _ _ _ _ _ _
   have HK:=Lib.hid (fun (W:World) (hb:Below w2.heap.size w2 W)=>(⟨hX2.below hb,(HRA.out.below hb2).below hb,HB1.out.trans ((hb2.trans (hb.mono hb2.size)).mono HB1.out.size)⟩:BkAt W w1.heap.size (.int .i64 p) (.int .i64 q) (.int .i64 r) (.slice a9 n c) (.int .i64 t) (.int .i64 u)∧RowA W a9 n L∧Below w.heap.size w W))
   obtain ⟨Z,hZe⟩:∃ Z,Z=w1.heap.size:=⟨_,rfl⟩
   rw [← hZe] at HK ⊢
   clear hw2 hb2 hX2 hZe HB1 HRA
   obtain ⟨m,hm⟩:∃ m,blkSumM ⟨p,q,r,L,t,u⟩=m:=⟨_,rfl⟩
   have HM:=Lib.hid hm
   have hmm:(m != m)=false:=by simp
   clear hm
   obtain ⟨⟨c0,c1,c2,c3,c4,c5,-⟩,hr2,-⟩:=HK.out w2 (Below.refl _ _)
   have HC:=Lib.hid (blockSum_impl p q r t u a9 n c L w2 hr2)
   clear hr2
   go_wp2_with fail
   refine HC.out.mono ?_;rintro e w3 ⟨rfl,hb3⟩
   rw [HM.out]
   have HB3:=Lib.hid hb3
   clear c0 c1 c2 c3 c4 c5 hb3 HC
   obtain ⟨⟨c0,c1,c2,c3,c4,c5,-⟩,hr3,-⟩:=HK.out w3 HB3.out
   have HC:=Lib.hid (blockSum_spec p q r t u a9 n c L w3 hr3)
   clear hr3
   go_wp2_with fail
   refine HC.out.mono ?_;rintro e w4 ⟨rfl,hb4⟩
   rw [HM.out]
   have HB4:=Lib.hid (HB3.out.trans (hb4.mono HB3.out.size))
   clear c0 c1 c2 c3 c4 c5 hb4 HB3 HC
   cases hbk:blkB ⟨p,q,r,L,t,u⟩ with
   | false =>
    have HBK:=Lib.hid hbk
    obtain rfl:m = -1:=by rw [← HM.out];exact blkSumM_no hbk
    clear hbk
    obtain ⟨⟨c0,c1,c2,c3,c4,c5,-⟩,hr4,-⟩:=HK.out w4 HB4.out
    have HC:=Lib.hid (blockValid_spec p q r t u a9 n c L w4 hr4)
    clear hr4
    go_wp2_with fail
    refine HC.out.mono ?_;rintro e w5 ⟨rfl,hb5⟩
    rw [HBK.out]
    have HB5:=Lib.hid (HB4.out.trans (hb5.mono HB4.out.size))
    clear c0 c1 c2 c3 c4 c5 hb5 HB4 HC
    go_wp2_with fail
    refine (alive_any w5).mono ?_;rintro e w6 ⟨rfl,hb6⟩
    have HBF:=Lib.hid ((HK.out w5 HB5.out).2.2.trans (hb6.mono (HK.out w5 HB5.out).2.2.size))
    clear hb6
    go_wp2
    go_ret
    exact ⟨rfl,HBF.out⟩
   | true =>
    have hmb:=blkSumM_nn hbk
    rw [HM.out] at hmb
    obtain ⟨-,⟨hr0,hr1⟩,-,⟨hq0,hq1⟩,⟨hv0,hv1⟩,-⟩:=blkB_true hbk
    have hv1:r≤1000:=hv1
    have hq1:q≤100:=hq1
    have hr1:t≤1000002:=hr1
    obtain ⟨r',hrx⟩:∃ x,bits .xor .i64 r 1=x:=⟨_,rfl⟩
    obtain ⟨q',hqx⟩:∃ x,bits .xor .i64 q 1=x:=⟨_,rfl⟩
    obtain ⟨t',htx⟩:∃ x,bits .xor .i64 t 1=x:=⟨_,rfl⟩
    obtain ⟨m1,hm1⟩:∃ x,blkSumM ⟨p,q,r',L,t,u⟩=x:=⟨_,rfl⟩
    obtain ⟨m2,hm2⟩:∃ x,blkSumM ⟨p,q',r,L,t,u⟩=x:=⟨_,rfl⟩
    obtain ⟨m3,hm3⟩:∃ x,blkSumM ⟨p,q,r,L,t',u⟩=x:=⟨_,rfl⟩
    have hn1:(m1 != m)=true:=by
     have h:=sum_view hbk (xor_one_i64 r hv0 (by omega)).2.2
     rw [hrx,hm1,HM.out] at h;simpa using h
    have hn2:(m2 != m)=true:=by
     have h:=sum_hgt hbk (xor_one_i64 q hq0 (by omega)).2.2
     rw [hqx,hm2,HM.out] at h;simpa using h
    have hn3:(m3 != m)=true:=by
     have h:=sum_root hbk (xor_one_i64 t hr0 (by omega)).2.2
     rw [htx,hm3,HM.out] at h;simpa using h
    have HM1:=Lib.hid hm1
    have HM2:=Lib.hid hm2
    have HM3:=Lib.hid hm3
    clear hbk hm1 hm2 hm3 hr0 hr1 hq0 hq1 hv0 hv1
    obtain ⟨⟨c0,c1,c2,c3,c4,c5,-⟩,-,-⟩:=HK.out w4 HB4.out
    go_upto_region 10 with (fail)
    generalize hwa:World.alloc _ _=wa1
    have hba:Below w4.heap.size w4 wa1:=by rw [← hwa];exact (Below.refl _ _).alloc (Nat.le_refl _) _
    have hN:BkAt wa1 w4.heap.size (.int .i64 p) (.int .i64 q) (.int .i64 r) (.slice a9 n c) (.int .i64 t) (.int .i64 u):=by rw [← hwa];exact bkAt_new w4 _ _ _ _ _ _ _
    have HBa1:=Lib.hid (HB4.out.trans (hba.mono HB4.out.size))
    have hlo:w2.heap.size≤w4.heap.size:=HB4.out.size
    obtain ⟨X,hXe⟩:∃ X,X=w4.heap.size:=⟨_,rfl⟩
    rw [← hXe] at hN hlo ⊢
    clear hwa hba hXe c0 c1 c2 c3 c4 c5
    have hX:=hN.put2 (.int .i64 r')
    have hbs:=HBa1.out.setCell (p:=⟨X,2,none⟩) hlo (.int .i64 r')
    obtain ⟨⟨c0,c1,c2,c3,c4,c5,-⟩,-,-⟩:=HK.out wa1 HBa1.out
    obtain ⟨y0,y1,y2,y3,y4,y5,yf0,yf1,yf2,yf3,yf4,yf5⟩:=hN
    go_upto_region 11 with (fail)
    clear c0 c1 c2 c3 c4 c5 y0 y1 y2 y3 y4 y5 yf0 yf1 yf2 yf3 yf4 yf5 hlo
    generalize hww:World.setCell wa1 _ _=ws1 at hX hbs  ⊢
    clear hww
    have HBs1:=Lib.hid hbs
    clear hbs HBa1
    obtain ⟨⟨c0,c1,c2,c3,c4,c5,-⟩,-,-⟩:=HK.out ws1 HBs1.out
    go_upto_region 12 with (fail)
    generalize hwa:World.alloc _ _=wa2
    have hba:Below ws1.heap.size ws1 wa2:=by rw [← hwa];exact (Below.refl _ _).alloc (Nat.le_refl _) _
    have hN:BkAt wa2 ws1.heap.size (.int .i64 p) (.int .i64 q) (.int .i64 r) (.slice a9 n c) (.int .i64 t) (.int .i64 u):=by rw [← hwa];exact bkAt_new ws1 _ _ _ _ _ _ _
    have HBa2:=Lib.hid (HBs1.out.trans (hba.mono HBs1.out.size))
    have hlo:w2.heap.size≤ws1.heap.size:=HBs1.out.size
    have hltX:=hX.lt
    have hXa:=hX.below hba
    obtain ⟨Y,hYe⟩:∃ X,X=ws1.heap.size:=⟨_,rfl⟩
    rw [← hYe] at hN hlo ⊢
    have hneX:X≠Y:=by omega
    clear hwa hba hYe c0 c1 c2 c3 c4 c5 hX hltX
    have hY:=hN.put1 (.int .i64 q')
    have hbs:=HBa2.out.setCell (p:=⟨Y,1,none⟩) hlo (.int .i64 q')
    have hX:=hXa.keep (w':=wa2.setCell ⟨Y,1,none⟩ (.int .i64 q')) ((grownBy_set wa2 Y 1 (.int .i64 q')).block X hXa.lt (by simp;exact hneX))
    obtain ⟨⟨c0,c1,c2,c3,c4,c5,-⟩,-,-⟩:=HK.out wa2 HBa2.out
    obtain ⟨y0,y1,y2,y3,y4,y5,yf0,yf1,yf2,yf3,yf4,yf5⟩:=hN
    go_upto_region 13 with (fail)
    clear c0 c1 c2 c3 c4 c5 y0 y1 y2 y3 y4 y5 yf0 yf1 yf2 yf3 yf4 yf5 hXa hneX hlo
    generalize hww:World.setCell wa2 _ _=ws2 at hY hbs hX ⊢
    clear hww
    have HBs2:=Lib.hid hbs
    clear hbs HBa2
    obtain ⟨⟨c0,c1,c2,c3,c4,c5,-⟩,-,-⟩:=HK.out ws2 HBs2.out
    go_upto_region 14 with (fail)
    generalize hwa:World.alloc _ _=wa3
    have hba:Below ws2.heap.size ws2 wa3:=by rw [← hwa];exact (Below.refl _ _).alloc (Nat.le_refl _) _
    have hN:BkAt wa3 ws2.heap.size (.int .i64 p) (.int .i64 q) (.int .i64 r) (.slice a9 n c) (.int .i64 t) (.int .i64 u):=by rw [← hwa];exact bkAt_new ws2 _ _ _ _ _ _ _
    have HBa3:=Lib.hid (HBs2.out.trans (hba.mono HBs2.out.size))
    have hlo:w2.heap.size≤ws2.heap.size:=HBs2.out.size
    have hltX:=hX.lt
    have hXa:=hX.below hba
    have hltY:=hY.lt
    have hYa:=hY.below hba
    obtain ⟨V,hVe⟩:∃ X,X=ws2.heap.size:=⟨_,rfl⟩
    rw [← hVe] at hN hlo ⊢
    have hneX:X≠V:=by omega
    have hneY:Y≠V:=by omega
    clear hwa hba hVe c0 c1 c2 c3 c4 c5 hX hltX hY hltY
    have hV:=hN.put4D (.int .i64 t')
    have hbs:=HBa3.out.setCell (p:=⟨V,4,none⟩) hlo (.int .i64 t')
    have hX:=hXa.keep (w':=wa3.setCell ⟨V,4,none⟩ (.int .i64 t')) ((grownBy_set wa3 V 4 (.int .i64 t')).block X hXa.lt (by simp;exact hneX))
    have hY:=hYa.keep (w':=wa3.setCell ⟨V,4,none⟩ (.int .i64 t')) ((grownBy_set wa3 V 4 (.int .i64 t')).block Y hYa.lt (by simp;exact hneY))
    obtain ⟨⟨c0,c1,c2,c3,c4,c5,-⟩,-,-⟩:=HK.out wa3 HBa3.out
    obtain ⟨y0,y1,y2,y3,y4,y5,yf0,yf1,yf2,yf3,yf4,yf5⟩:=hN
    go_upto_region 15 with (fail)
    clear c0 c1 c2 c3 c4 c5 y0 y1 y2 y3 y4 y5 yf0 yf1 yf2 yf3 yf4 yf5 hXa hneX hYa hneY hlo
    generalize hww:World.setCell wa3 _ _=ws3 at hV hbs hX hY ⊢
    clear hww
    have HBs3:=Lib.hid hbs
    clear hbs HBa3
    have HKF:=Lib.hid (fun (W:World) (hb:Below ws3.heap.size ws3 W)=>(⟨⟨hX.below hb,hY.below hb,hV.below hb⟩,(HK.out W (HBs3.out.trans (hb.mono HBs3.out.size))).2.1,(HK.out W (HBs3.out.trans (hb.mono HBs3.out.size))).2.2⟩:(BkAt W X (.int .i64 p) (.int .i64 q) (.int .i64 r') (.slice a9 n c) (.int .i64 t) (.int .i64 u)∧BkAt W Y (.int .i64 p) (.int .i64 q') (.int .i64 r) (.slice a9 n c) (.int .i64 t) (.int .i64 u)∧BkAt W V (.int .i64 p) (.int .i64 q) (.int .i64 r) (.slice a9 n c) (.int .i64 t') (.int .i64 u))∧RowA W a9 n L∧Below w.heap.size w W))
    clear hX hY hV hrx hqx htx HBs1 HBs2 HBs3 HB4
    obtain ⟨⟨⟨c0,c1,c2,c3,c4,c5,-⟩,-,-⟩,hr,-⟩:=HKF.out ws3 (Below.refl _ _)
    have HC:=Lib.hid (blockSum_impl p q r' t u a9 n c L ws3 hr)
    clear hr
    go_wp2_with fail
    refine HC.out.mono ?_;rintro e w5 ⟨rfl,hb5⟩
    rw [HM1.out]
    have HB5:=Lib.hid hb5
    clear c0 c1 c2 c3 c4 c5 hb5 HC
    obtain ⟨⟨-,⟨c0,c1,c2,c3,c4,c5,-⟩,-⟩,hr,-⟩:=HKF.out w5 HB5.out
    have HC:=Lib.hid (blockSum_impl p q' r t u a9 n c L w5 hr)
    clear hr
    go_wp2_with fail
    refine HC.out.mono ?_;rintro e w6 ⟨rfl,hb6⟩
    rw [HM2.out]
    have HB6:=Lib.hid (HB5.out.trans (hb6.mono HB5.out.size))
    clear c0 c1 c2 c3 c4 c5 hb6 HC
    obtain ⟨⟨-,-,⟨c0,c1,c2,c3,c4,c5,-⟩⟩,hr,-⟩:=HKF.out w6 HB6.out
    have HC:=Lib.hid (blockSum_impl p q r t' u a9 n c L w6 hr)
    clear hr
    go_wp2_with fail
    refine HC.out.mono ?_;rintro e w7 ⟨rfl,hb7⟩
    rw [HM3.out]
    have HB7:=Lib.hid (HKF.out w7 (HB6.out.trans (hb7.mono HB6.out.size))).2.2
    clear c0 c1 c2 c3 c4 c5 hb7 HC
    go_wp2
    go_ret
    exact ⟨rfl,HB7.out⟩
 · have hs':(1048576:Int) < (len:Int):=by omega
   clear h hlc
   go_enter Try.func4,Try.ntmps4
   go_wp2
   go_ret
   exact ⟨rfl,Below.refl _ _⟩
end Go.Proofs.Ytolhdacbahgfgab

/- The walk of the exact law of BlockRight (gen15/lawright.py). -/
import Derived.Test.YtnojhgckinibgabGreatBkI
import Derived.Test.YtnojhgckinibgabGreatSpecRight
import Derived.Test.YtnojhgckinibgabGreatCvB
import Derived.Deep.RegionHeld3
namespace Go.Proofs.YtnojhgckinibgabGreat
open Go.RowKit
set_option linter.unusedVariables false
set_option linter.unusedSimpArgs false
set_option maxRecDepth 100000 in
set_option maxHeartbeats 8000000 in
theorem lawExactBlockRight (p q r:Int) (a:Option Addr) (n c:Nat) (t u:Int) (L:List Acn) (a1:Option Addr) (n1 c1:Nat) (S:List Ent) (w:World) (h:RowA w a n L∧(a=none→c=0)∧n≤c∧WfB ⟨p,q,r,L,t,u⟩) (h1:RowE w a1 n1 S) (hz1:a1=none→c1=0) (hlc1:n1≤c1) :
  Calls Tryz.prog 8 #[.agg #[.int .i64 p,.int .i64 q,.int .i64 r,.slice a n c,.int .i64 t,.int .i64 u],.slice a1 n1 c1] w (LawTrue w):=by
 obtain ⟨h,-,-,hwf⟩:=h
 have HWF:=Lib.hid hwf
 have hm:=h.2.1
 have hm1:=h1.2.1
 have HLL:Hid (L.length=n):=Lib.hid h.1
 have HSL:Hid (S.length=n1):=Lib.hid h1.1
 have hb0:=(Below.refl w.heap.size w).alloc (Nat.le_refl _) (.cells #[.int .i64 p,.int .i64 q,.int .i64 r,.slice a n c,.int .i64 t,.int .i64 u] 29)
 have hg0:=bkAt_new w 29 (.int .i64 p) (.int .i64 q) (.int .i64 r) (.slice a n c) (.int .i64 t) (.int .i64 u)
 obtain ⟨W1,hW1⟩:∃ W1,W1=w.alloc (.cells #[.int .i64 p,.int .i64 q,.int .i64 r,.slice a n c,.int .i64 t,.int .i64 u] 29):=⟨_,rfl⟩
 have HW1:=Lib.hid hW1
 rw [← hW1] at hb0 hg0
 clear hW1
 have HKK:=Lib.hid (fun (W:World) (hb:Below W1.heap.size W1 W)=>(⟨hg0.below hb,(h.below hb0).below hb,hb0.trans (hb.mono hb0.size),(h1.below hb0).below hb⟩:BkAt W w.heap.size (.int .i64 p) (.int .i64 q) (.int .i64 r) (.slice a n c) (.int .i64 t) (.int .i64 u)∧RowA W a n L∧Below w.heap.size w W∧RowE W a1 n1 S))
 clear hb0 hg0 h hwf h1 hz1 hlc1
 go_enter Tryz.func8,Tryz.ntmps8
 go_upto_region 1 with (fail)
 rw [← HW1.out]
 clear HW1
 obtain ⟨⟨k0,k1,k2,k3,k4,k5,-⟩,kr,-,-⟩:=HKK.out W1 (Below.refl _ _)
 go_wp2_with fail
 refine (szBlock_any p q r t u a n c 1048576 _ (by omega) (by omega) hm).mono ?_;rintro e1 w1 ⟨rfl,hb1⟩
 have HB1:=Lib.hid hb1
 clear k0 k1 k2 k3 k4 k5 kr hb1
 by_cases hs:(n:Int)≤1048576
 · rw [if_pos hs]
   have hnn:decide ((1048576:Int) - (n:Int) < 0)=false:=by simp;omega
   go_wp2_with fail
   refine (szEntryS_any a1 n1 c1 (1048576 - (n:Int)) _ (by omega) (by omega) hm1).mono ?_;rintro e1 w' ⟨rfl,rfl⟩
   by_cases hs1:(n1:Int)≤1048576 - (n:Int)
   · rw [if_pos hs1]
     have hnn1:decide ((1048576:Int) - (n:Int) - (n1:Int) < 0)=false:=by simp;omega
     have HSN:Hid (n≤1048576∧n1≤1048576):=Lib.hid ⟨by omega,by omega⟩
     obtain ⟨v,hv⟩:∃ v,rightB ⟨p,q,r,L,t,u⟩ S=v:=⟨_,rfl⟩
     have HV:=Lib.hid hv
     have hvv:(v != v)=false:=by simp
     clear hv hs hs1 hm hm1 hnn
     obtain ⟨⟨k0,k1,k2,k3,k4,k5,-⟩,kr,-,-⟩:=HKK.out w1 HB1.out
     have HT1:=Lib.hid (toBlock_any p q r t u a n c L w1 kr HSN.out.1 HWF.out)
     clear kr
     go_wp2_with fail
     refine HT1.out.mono ?_;rintro e1 w2 ⟨v2,rfl,ho2,hwa,-,hb2⟩
     obtain ⟨a2,c2,rfl,hr2,-,-,-⟩:=rowA_of_owns ho2 (by have:=HLL.out;have:=HSN.out;simp only;omega) hwa
     have HO2:=Lib.hid hr2
     have HB2:=Lib.hid (HB1.out.trans (hb2.mono HB1.out.size))
     clear k0 k1 k2 k3 k4 k5 ho2 hwa hb2 HB1 hr2 HT1
     go_wp2_with fail
     refine (toEntryS_any a1 n1 c1 S _ (HKK.out w2 HB2.out).2.2.2 HSN.out.2).mono ?_;rintro e1 w3 ⟨v3,rfl,ho3,hw3,hb3⟩
     obtain ⟨g3,c3,rfl,-,hr3⟩:=rowE_of_own ho3 (by have:=HSL.out;have:=HSN.out;omega) hw3
     have HR3:=Lib.hid hr3
     have HO3:=Lib.hid (HO2.out.below hb3)
     have HB3:=Lib.hid (HB2.out.trans (hb3.mono HB2.out.size))
     clear ho3 hw3 hr3 hb3 HB2 HO2
     go_wp2_with fail
     refine (blockRight_spec p q r t u _ _ c2 L _ _ c3 S _ HO3.out HR3.out (fun h=>by cases h)).mono ?_;rintro e1 w4 ⟨rfl,hb4⟩
     rw [HV.out]
     have HB4:=Lib.hid (HB3.out.trans (hb4.mono HB3.out.size))
     obtain ⟨⟨k0,k1,k2,k3,k4,k5,-⟩,kr,-,-⟩:=HKK.out w4 HB4.out
     have HT4:=Lib.hid (toBlock_any p q r t u a n c L w4 kr HSN.out.1 HWF.out)
     clear hb4 HB3 HO3 HR3 kr
     go_wp2_with fail
     refine HT4.out.mono ?_;rintro e1 w5 ⟨v5,rfl,ho5,hwa,-,hb5⟩
     obtain ⟨a4,c4,rfl,hr5,-,-,-⟩:=rowA_of_owns ho5 (by have:=HLL.out;have:=HSN.out;simp only;omega) hwa
     have HO5:=Lib.hid hr5
     have HB5:=Lib.hid (HB4.out.trans (hb5.mono HB4.out.size))
     clear k0 k1 k2 k3 k4 k5 ho5 hwa hb5 HB4 hr5 HT4
     go_upto_region 10 with (fail)
     generalize hw6:World.alloc _ _=w6
     have hb6:Below w5.heap.size w5 w6:=by rw [← hw6];exact (Below.refl _ _).alloc (Nat.le_refl _) _
     have hX6:BkAt w6 w5.heap.size (.int .i64 p) (.int .i64 q) (.int .i64 r) (.slice a4 L.length c4) (.int .i64 t) (.int .i64 u):=by rw [← hw6];exact bkAt_new w5 _ _ _ _ _ _ _
     have HB6:=Lib.hid (HB5.out.trans (hb6.mono HB5.out.size))
     have HKX:=Lib.hid (fun (W:World) (hb:Below w6.heap.size w6 W)=>(⟨hX6.below hb,(HO5.out.below hb6).below hb⟩:BkAt W w5.heap.size (.int .i64 p) (.int .i64 q) (.int .i64 r) (.slice a4 L.length c4) (.int .i64 t) (.int .i64 u)∧RowA W a4 L.length L))
     obtain ⟨G,hG⟩:∃ G,G=w5.heap.size:=⟨_,rfl⟩
     rw [← hG] at HKX ⊢
     clear hw6 hb6 hX6 hG HB5 HO5
     go_wp2_with fail
     refine (toEntryS_any a1 n1 c1 S _ (HKK.out w6 HB6.out).2.2.2 HSN.out.2).mono ?_;rintro e1 w7 ⟨v7,rfl,ho7,hw7,hb7⟩
     obtain ⟨g7,c7,rfl,-,hr7⟩:=rowE_of_own ho7 (by have:=HSL.out;have:=HSN.out;omega) hw7
     have HX7:=Lib.hid hb7
     have HR7:=Lib.hid (fun (W:World) (hb:Below w7.heap.size w7 W)=>hr7.below hb)
     have HB7:=Lib.hid (HB6.out.trans (hb7.mono HB6.out.size))
     obtain ⟨⟨k0,k1,k2,k3,k4,k5,-⟩,kr⟩:=HKX.out w7 hb7
     have HIM:=Lib.hid (blockRight_impl p q r t u _ _ c4 L _ _ c7 S w7 kr hr7 (fun h=>by cases h))
     clear ho7 hw7 hr7 hb7 kr
     go_wp2_with fail
     refine HIM.out.mono ?_;rintro e1 w8 ⟨rfl,hb8⟩
     rw [HV.out]
     have HX8:=Lib.hid (HX7.out.trans (hb8.mono HX7.out.size))
     have HB8:=Lib.hid (HB7.out.trans (hb8.mono HB7.out.size))
     have HY8:=Lib.hid hb8
     clear k0 k1 k2 k3 k4 k5 hb8 HIM
     have HKP:=Lib.hid (fun (w':World) (hb:Below w8.heap.size w8 w')=>(⟨⟨((HKX.out w8 HX8.out).1.below hb).c0,((HKX.out w8 HX8.out).1.below hb).c1,((HKX.out w8 HX8.out).1.below hb).c2,((HKX.out w8 HX8.out).1.below hb).c3,((HKX.out w8 HX8.out).1.below hb).c4,((HKX.out w8 HX8.out).1.below hb).c5⟩,((HKK.out w8 HB8.out).1.below hb).c0,((HKK.out w8 HB8.out).1.below hb).c1,((HKK.out w8 HB8.out).1.below hb).c2,((HKK.out w8 HB8.out).1.below hb).c3,((HKK.out w8 HB8.out).1.below hb).c4,((HKK.out w8 HB8.out).1.below hb).c5⟩:(w'.cell? ⟨G,0,none⟩=some (.int .i64 p)∧w'.cell? ⟨G,1,none⟩=some (.int .i64 q)∧w'.cell? ⟨G,2,none⟩=some (.int .i64 r)∧w'.cell? ⟨G,3,none⟩=some (.slice a4 L.length c4)∧w'.cell? ⟨G,4,none⟩=some (.int .i64 t)∧w'.cell? ⟨G,5,none⟩=some (.int .i64 u))∧(w'.cell? ⟨w.heap.size,0,none⟩=some (.int .i64 p)∧w'.cell? ⟨w.heap.size,1,none⟩=some (.int .i64 q)∧w'.cell? ⟨w.heap.size,2,none⟩=some (.int .i64 r)∧w'.cell? ⟨w.heap.size,3,none⟩=some (.slice a n c)∧w'.cell? ⟨w.heap.size,4,none⟩=some (.int .i64 t)∧w'.cell? ⟨w.heap.size,5,none⟩=some (.int .i64 u))))
     have hkp0:=HKP.out w8 (Below.refl _ _)
     have HT8:=Lib.hid (toBlock_any p q r t u a n c L w8.drew ((HKK.out w8 HB8.out).2.1.below (Below.refl _ _).drew) HSN.out.1 HWF.out)
     go_upto_region 14 with (fail)
     go_region_held3 (fun w'=>(w'.cell? ⟨G,0,none⟩=some (.int .i64 p)∧w'.cell? ⟨G,1,none⟩=some (.int .i64 q)∧w'.cell? ⟨G,2,none⟩=some (.int .i64 r)∧w'.cell? ⟨G,3,none⟩=some (.slice a4 L.length c4)∧w'.cell? ⟨G,4,none⟩=some (.int .i64 t)∧w'.cell? ⟨G,5,none⟩=some (.int .i64 u))∧(w'.cell? ⟨w.heap.size,0,none⟩=some (.int .i64 p)∧w'.cell? ⟨w.heap.size,1,none⟩=some (.int .i64 q)∧w'.cell? ⟨w.heap.size,2,none⟩=some (.int .i64 r)∧w'.cell? ⟨w.heap.size,3,none⟩=some (.slice a n c)∧w'.cell? ⟨w.heap.size,4,none⟩=some (.int .i64 t)∧w'.cell? ⟨w.heap.size,5,none⟩=some (.int .i64 u))) (first | exact hkp0 | exact hkp | exact hkp2 | go_keep)
      (first | (go_at_call 19;(with_reducible refine HT8.out.mono ?_);rintro e1 w9 ⟨v9,rfl,ho9,hwa9,-,hb9'⟩;obtain ⟨a9,c9,rfl,hr9,-,-,-⟩:=rowA_of_owns ho9 (by have:=HLL.out;have:=HSN.out;simp only;omega) hwa9;have hb9:=(Below.refl w8.heap.size w8).drew.trans hb9';have hkp:=HKP.out _ hb9) | (go_at_call 22;refine (eqBlock_same p q r t u _ _ c4 _ c9 L _ ((HKX.out w8 HX8.out).2.below hb9) hr9).mono ?_;rintro e1 w10 ⟨rfl,hb10'⟩;have hb10:=hb9.trans (hb10'.mono hb9.size);have hkp2:=HKP.out _ hb10))
     have HB10:=Lib.hid (HB8.out.trans (hb10.mono HB8.out.size))
     have HY10:=Lib.hid (HY8.out.trans (hb10.mono HY8.out.size))
     clear hkp0 hkp hkp2 hb10 hb10' hb9 hb9' ho9 hwa9 hr9 HT8
     go_wp2_with fail
     refine (toEntryS_any a1 n1 c1 S _ (HKK.out w10 HB10.out).2.2.2 HSN.out.2).mono ?_;rintro e1 w11 ⟨v11,rfl,ho11,hw11,hb11⟩
     obtain ⟨g11,c11,rfl,-,hr11⟩:=rowE_of_own ho11 (by have:=HSL.out;have:=HSN.out;omega) hw11
     have HB11:=Lib.hid (HB10.out.trans (hb11.mono HB10.out.size))
     have hx11:=HR7.out w11 (HY10.out.trans (hb11.mono HY10.out.size))
     clear ho11 hw11 hb11
     go_wp2_with fail
     refine (eqEntryS_same _ _ _ c7 c11 S _ hx11 hr11).mono ?_;rintro e1 w12 ⟨rfl,hb12⟩
     have HBF:=Lib.hid (HKK.out w12 (HB11.out.trans (hb12.mono HB11.out.size))).2.2.1
     clear hx11 hr11 hb12
     go_wp2
     go_ret
     exact ⟨rfl,HBF.out⟩
   · rw [if_neg hs1]
     have HBF:=Lib.hid ((HKK.out _ HB1.out).2.2.1)
     clear hs hs1
     go_wp2
     go_ret
     exact ⟨rfl,HBF.out⟩
 · rw [if_neg hs]
   have HBF:=Lib.hid ((HKK.out _ HB1.out).2.2.1)
   clear hs
   go_wp2
   go_ret
   exact ⟨rfl,HBF.out⟩
end Go.Proofs.YtnojhgckinibgabGreat

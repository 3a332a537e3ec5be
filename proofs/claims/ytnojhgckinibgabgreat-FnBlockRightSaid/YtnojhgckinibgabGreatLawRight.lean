/- The walk of the law FnBlockRight. -/
import Derived.Test.YtnojhgckinibgabGreatDrawBlk
import Derived.Test.YtnojhgckinibgabGreatBkI
import Derived.Test.YtnojhgckinibgabGreatTrM
import Derived.Test.YtnojhgckinibgabGreatOne
import Derived.Deep.RegionHeld3
namespace Go.Proofs.YtnojhgckinibgabGreat
open Go.RowKit
set_option linter.unusedVariables false
set_option linter.unusedSimpArgs false
set_option maxRecDepth 100000 in
set_option maxHeartbeats 8000000 in
theorem lawBlockRight (a:Option Addr) (len cap:Nat) (z:List Int) (w:World) (h:RowB w a len z) (hc:a=none→cap=0) (hlc:len≤cap) :
  Calls Tryz.prog 9 #[.slice a len cap] w (LawTrue w):=by
 by_cases hs:len≤1048576
 · have hs':¬ (1048576:Int) < (len:Int):=by omega
   go_enter Tryz.func9,Tryz.ntmps9
   go_wp2_with fail
   refine (drawBlockRight_any a len cap z w h hlc).mono ?_;rintro e w1 ⟨p,q,r,a2,n2,c2,t,u,L,g,cS,S,rfl,hr1,hll,hs1,hsl,hb1⟩
   have HR1:=Lib.hid hr1
   have HS1:=Lib.hid hs1
   have HB1:=Lib.hid hb1
   clear h hs hs' hc hlc hr1 hs1 hb1 hll hsl
   go_upto_region 4 with (fail)
   generalize hw2:World.alloc _ _=w2
   have hb2:Below w1.heap.size w1 w2:=by rw [← hw2];exact (Below.refl _ _).alloc (Nat.le_refl _) _
   have hG2:BkAt w2 w1.heap.size (.int .i64 p) (.int .i64 q) (.int .i64 r) (.slice a2 n2 c2) (.int .i64 t) (.int .i64 u):=by rw [← hw2];exact bkAt_new w1 _ _ _ _ _ _ _
   have HK:=Lib.hid (fun (W:World) (hb:Below w2.heap.size w2 W)=>(⟨hG2.below hb,(HR1.out.below hb2).below hb,(HS1.out.below hb2).below hb,HB1.out.trans ((hb2.trans (hb.mono hb2.size)).mono HB1.out.size)⟩:BkAt W w1.heap.size (.int .i64 p) (.int .i64 q) (.int .i64 r) (.slice a2 n2 c2) (.int .i64 t) (.int .i64 u)∧RowA W a2 n2 L∧RowE W (some ⟨g,0,none⟩) S.length S∧Below w.heap.size w W))
   obtain ⟨G,hGe⟩:∃ G,G=w1.heap.size:=⟨_,rfl⟩
   rw [← hGe] at HK ⊢
   clear hw2 hb2 hG2 hGe HR1 HS1 HB1
   obtain ⟨v,hv⟩:∃ v,rightB ⟨p,q,r,L,t,u⟩ S=v:=⟨_,rfl⟩
   have HV:=Lib.hid hv
   have hvv:(v != v)=false:=by simp
   clear hv
   obtain ⟨⟨k0,k1,k2,k3,k4,k5,-⟩,hr2,hs2,-⟩:=HK.out w2 (Below.refl _ _)
   go_wp2_with fail
   refine (blockRight_impl p q r t u _ _ c2 L _ _ cS S _ hr2 hs2 (fun h=>by cases h)).mono ?_;rintro e w3 ⟨rfl,hb3⟩
   rw [HV.out]
   have HB3:=Lib.hid hb3
   clear k0 k1 k2 k3 k4 k5 hr2 hs2 hb3
   obtain ⟨⟨k0,k1,k2,k3,k4,k5,-⟩,hr3,hs3,-⟩:=HK.out w3 HB3.out
   go_wp2_with fail
   refine (blockRight_spec p q r t u _ _ c2 L _ _ cS S _ hr3 hs3 (fun h=>by cases h)).mono ?_;rintro e w4 ⟨rfl,hb4⟩
   rw [HV.out]
   have HB4:=Lib.hid (HB3.out.trans (hb4.mono HB3.out.size))
   clear k0 k1 k2 k3 k4 k5 hr3 hs3 hb4 HB3
   cases v with
   | false =>
    go_wp2_with fail
    refine (alive_any _).mono ?_;rintro e w5 ⟨rfl,hb5⟩
    have HBF:=Lib.hid (HK.out w5 (HB4.out.trans (hb5.mono HB4.out.size))).2.2.2
    clear hb5
    go_wp2
    go_ret
    exact ⟨rfl,HBF.out⟩
   | true =>
    obtain ⟨hv1,hv2,hv3,hv4⟩:=right_true HV.out
    simp only at hv3 hv4
    have hrb:=(blkB_true hv1).2.1
    simp only at hrb
    have hxo:=xor_one_i64 t (by omega) (by omega)
    obtain ⟨y,hy⟩:∃ y,y=Go.bits .xor .i64 t 1:=⟨_,rfl⟩
    have HNR:Hid (rightB ⟨p,q,r,L,y,u⟩ S=false):=Lib.hid (right_root HV.out y (by simp only;rw [hy];omega))
    have HV3:=Lib.hid hv3
    have HV4:=Lib.hid hv4
    clear hv1 hv2 hv3 hv4 hrb hxo
    obtain ⟨⟨k0,k1,k2,k3,k4,k5,-⟩,-,-,-⟩:=HK.out w4 HB4.out
    go_upto_region 10 with (fail)
    generalize hw5:World.alloc _ _=w5
    have hb5:Below w4.heap.size w4 w5:=by rw [← hw5];exact (Below.refl _ _).alloc (Nat.le_refl _) _
    have hX5:BkAt w5 w4.heap.size (.int .i64 p) (.int .i64 q) (.int .i64 r) (.slice a2 n2 c2) (.int .i64 t) (.int .i64 u):=by rw [← hw5];exact bkAt_new w4 _ _ _ _ _ _ _
    have HB5:=Lib.hid (HB4.out.trans (hb5.mono HB4.out.size))
    have HX5:=Lib.hid hX5
    obtain ⟨X,hXe⟩:∃ X,X=w4.heap.size:=⟨_,rfl⟩
    have HXG:Hid (w2.heap.size≤X):=Lib.hid (by rw [hXe];exact HB4.out.size)
    rw [← hXe] at HX5 ⊢
    clear hw5 hb5 hX5 hXe k0 k1 k2 k3 k4 k5
    obtain ⟨k0,k1,k2,k3,k4,k5,j0,j1,j2,j3,j4,j5⟩:=HX5.out
    obtain ⟨⟨g0,g1,g2,g3,g4,g5,-⟩,-⟩:=HK.out w5 HB5.out
    have HX6:=Lib.hid (HX5.out.put4 (.int .i64 y))
    have HB6:Hid (Below w2.heap.size w2 (w5.setCell ⟨X,4,none⟩ (.int .i64 y))):=Lib.hid (HB5.out.setCell (p:=⟨X,4,none⟩) HXG.out _)
    rw [hy] at HX6 HB6
    go_upto_region 11 with (fail)
    rw [← hy] at HX6 HB6 ⊢
    generalize hw6:World.setCell w5 _ _=w6 at HX6 HB6 ⊢
    clear hw6 hy k0 k1 k2 k3 k4 k5 j0 j1 j2 j3 j4 j5 g0 g1 g2 g3 g4 g5
    obtain ⟨⟨k0,k1,k2,k3,k4,k5,-⟩,hr6,hs6,-⟩:=HK.out w6 HB6.out
    go_wp2_with fail
    refine (runSerial_impl _ _ cS S _ _ c2 L _ hs6 (fun h=>by cases h) hr6).mono ?_;rintro e w7 ⟨v7,u7,rfl,hSF,hb7⟩
    have HXL:Hid ((serM S L).1.length≤32∧(serM S L).2.length≤10∧∀ x∈(serM S L).2,x.rds.length+x.wrs.length≤1500000):=Lib.hid ⟨serM_store S L,serM_len S L,fun x hx=>by have:=serM_eff S L x hx;omega⟩
    obtain ⟨E,hE⟩:∃ E,E=serM S L:=⟨_,rfl⟩
    rw [← hE] at hSF HXL HV3 HV4
    obtain ⟨a7,c7,rfl,hr7,-⟩:=hSF.row (by have:=HXL.out.1;omega)
    obtain ⟨b7,d7,rfl,hf7,-,-⟩:=rowFs_of_own hSF.effs
    have HB7:=Lib.hid (HB6.out.trans (hb7.mono HB6.out.size))
    have HX7:=Lib.hid (HX6.out.below hb7)
    have HRO:=Lib.hid (fun (W:World) (hb:Below w7.heap.size w7 W)=>(by have:=rootOf_impl a7 E.1.length c7 E.1 W (hr7.below hb);rw [HV3.out] at this;exact this:Calls Tryz.prog 54 #[.slice a7 E.1.length c7] W (IntB t W)))
    have HEF:=Lib.hid (fun (W:World) (hb:Below w7.heap.size w7 W)=>(by have:=effectsSum_impl b7 E.2.length d7 E.2 W (hf7.below hb) HXL.out.2.2 (by have:=HXL.out.2.1;omega);rw [HV4.out] at this;exact this:Calls Tryz.prog 55 #[.slice b7 E.2.length d7] W (IntB u W)))
    have HBR:=Lib.hid (by have:=blockRight_impl p q r y u _ _ c2 L _ _ cS S w7.drew ((HK.out w7 HB7.out).2.1.below (Below.refl _ _).drew) ((HK.out w7 HB7.out).2.2.1.below (Below.refl _ _).drew) (fun h=>by cases h);rw [HNR.out] at this;exact this:Calls Tryz.prog 50 #[.agg #[.int .i64 p,.int .i64 q,.int .i64 r,.slice a2 n2 c2,.int .i64 y,.int .i64 u],.slice (some ⟨g,0,none⟩) S.length cS] w7.drew (BoolB false w7.drew))
    have HKP:=Lib.hid (fun (w':World) (hb:Below w7.heap.size w7 w')=>(⟨⟨(HX7.out.below hb).c0,(HX7.out.below hb).c1,(HX7.out.below hb).c2,(HX7.out.below hb).c3,(HX7.out.below hb).c4,(HX7.out.below hb).c5⟩,(HK.out w' (HB7.out.trans (hb.mono HB7.out.size))).1.c4,(HK.out w' (HB7.out.trans (hb.mono HB7.out.size))).1.c5⟩:(w'.cell? ⟨X,0,none⟩=some (.int .i64 p)∧w'.cell? ⟨X,1,none⟩=some (.int .i64 q)∧w'.cell? ⟨X,2,none⟩=some (.int .i64 r)∧w'.cell? ⟨X,3,none⟩=some (.slice a2 n2 c2)∧w'.cell? ⟨X,4,none⟩=some (.int .i64 y)∧w'.cell? ⟨X,5,none⟩=some (.int .i64 u))∧w'.cell? ⟨G,4,none⟩=some (.int .i64 t)∧w'.cell? ⟨G,5,none⟩=some (.int .i64 u)))
    have hkp0:=HKP.out w7 (Below.refl _ _)
    have t1:(t == t)=true:=by simp
    have t2:(u == u)=true:=by simp
    unfold IntB at HRO HEF
    clear k0 k1 k2 k3 k4 k5 hr6 hs6 hb7 hSF hr7 hf7 hE HX5 HX6
    go_upto_region 12 with (fail)
    go_region_held3 (fun w'=>(w'.cell? ⟨X,0,none⟩=some (.int .i64 p)∧w'.cell? ⟨X,1,none⟩=some (.int .i64 q)∧w'.cell? ⟨X,2,none⟩=some (.int .i64 r)∧w'.cell? ⟨X,3,none⟩=some (.slice a2 n2 c2)∧w'.cell? ⟨X,4,none⟩=some (.int .i64 y)∧w'.cell? ⟨X,5,none⟩=some (.int .i64 u))∧w'.cell? ⟨G,4,none⟩=some (.int .i64 t)∧w'.cell? ⟨G,5,none⟩=some (.int .i64 u)) (first | exact hkp0 | exact hkp | exact hkp2 | exact hkp3 | go_keep)
     (first
      | (go_at_call 50;(with_reducible refine HBR.out.mono ?_);rintro en1 w8 ⟨rfl,hb8'⟩;have hb8:=(Below.refl w7.heap.size w7).drew.trans hb8';have hkp:=HKP.out _ hb8)
      | (go_at_call 54;(with_reducible refine (HRO.out w8 hb8).mono ?_);rintro en2 w9 ⟨rfl,hb9'⟩;have hb9:=hb8.trans (hb9'.mono hb8.size);have hkp2:=HKP.out _ hb9)
      | (go_at_call 55;(with_reducible refine (HEF.out w9 hb9).mono ?_);rintro en3 w10 ⟨rfl,hb10'⟩;have hb10:=hb9.trans (hb10'.mono hb9.size);have hkp3:=HKP.out _ hb10))
    have HBF:=Lib.hid (HK.out w10 (HB7.out.trans (hb10.mono HB7.out.size))).2.2.2
    clear hkp0 hkp hkp2 hkp3 hb8 hb8' hb9 hb9' hb10 hb10'
    go_wp2
    go_ret
    exact ⟨rfl,HBF.out⟩
 · have hs':(1048576:Int) < (len:Int):=by omega
   clear h hlc
   go_enter Tryz.func9,Tryz.ntmps9
   go_wp2
   go_ret
   exact ⟨rfl,Below.refl _ _⟩
end Go.Proofs.YtnojhgckinibgabGreat

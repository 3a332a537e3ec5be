/- The walk of the law FnFirstBlock. -/
import Derived.Test.YtnojhgckinibgabBkI
import Derived.Test.YtnojhgckinibgabSpB
import Derived.Test.YtnojhgckinibgabSameBk
import Derived.Test.YtnojhgckinibgabTrM
import Derived.Test.YtnojhgckinibgabDrawT
import Derived.Test.YtnojhgckinibgabOne
import Derived.Test.YtnojhgckinibgabLawFirstEx
import Derived.Deep.RegionHeld3
namespace Go.Proofs.Ytnojhgckinibgab
open Go.RowKit
set_option linter.unusedVariables false
set_option linter.unusedSimpArgs false
theorem drawFirstBlock_any (a:Option Addr) (len cap:Nat) (z:List Int) (w:World) (h:RowB w a len z) (hlc:len≤cap) :
  Calls Try.prog 4 #[.slice a len cap] w (EntsD w 45):=by
 go_enter Try.func4,Try.ntmps4
 go_wp2_with fail
 refine (open_any a len cap z w h hlc).mono ?_;rintro e w1 ⟨R,rfl,hR,hr,hb,hRlt⟩
 go_wp2_with fail
 refine (l20Store_any R 0 6 _ hr (by omega) (by omega) (by omega)).mono ?_;rintro e w2 ⟨v,l,rfl,hown,hwf,hlen,hr2,hu2⟩
 go_wp2
 go_ret
 exact ⟨v,l,rfl,hown.mono hb.size,hwf,hlen,hu2.below hb hb.size hR⟩
set_option maxRecDepth 100000 in
set_option maxHeartbeats 4000000 in
theorem lawFirstBlock (a:Option Addr) (len cap:Nat) (z:List Int) (w:World) (h:RowB w a len z) (hc:a=none→cap=0) (hlc:len≤cap) :
  Calls Try.prog 3 #[.slice a len cap] w (LawTrue w):=by
 by_cases hs:len≤1048576
 · have hs':¬ (1048576:Int) < (len:Int):=by omega
   go_enter Try.func3,Try.ntmps3
   go_wp2_with fail
   refine (drawFirstBlock_any a len cap z w h hlc).mono ?_;rintro e w1 ⟨v,S,rfl,hown,hwf,hlen,hb1⟩
   obtain ⟨g,c,rfl,hg,hr1⟩:=rowE_of_own hown (by omega) hwf
   have HB1:=Lib.hid hb1
   have HR1:=Lib.hid hr1
   clear h hs hs' hlc hc hown hb1 hg hwf hr1
   obtain ⟨x,hx⟩:∃ x,x=firstM S:=⟨_,rfl⟩
   have HX:=Lib.hid hx
   have hxa:x.acts=[]:=by
    rw [hx];unfold firstM;split <;> rfl
   have HXA:=Lib.hid hxa
   clear hx hxa
   go_wp2_with fail
   refine (firstBlock_impl _ _ c S _ HR1.out (fun h=>by cases h)).mono ?_;intro e w2 hF2
   rw [← HX.out] at hF2
   obtain ⟨aG,cG,rfl,-,hb2⟩:=hF2.none HXA.out
   have HB2:=Lib.hid (HB1.out.trans (hb2.mono HB1.out.size))
   have HR2:=Lib.hid (HR1.out.below hb2)
   clear hF2 hb2 HB1 HR1
   go_upto_region 5 with (fail)
   generalize hw3:World.alloc _ _=w3
   have hb3:Below w2.heap.size w2 w3:=by rw [← hw3];exact (Below.refl _ _).alloc (Nat.le_refl _) _
   have hG3:BkAt w3 w2.heap.size (.int .i64 x.bef) (.int .i64 x.hgt) (.int .i64 x.view) (.slice aG 0 cG) (.int .i64 x.root) (.int .i64 x.effs):=by rw [← hw3];exact bkAt_new w2 _ _ _ _ _ _ _
   have HB3:=Lib.hid (HB2.out.trans (hb3.mono HB2.out.size))
   have HR3:=Lib.hid (HR2.out.below hb3)
   clear hw3 hb3 HB2 HR2
   obtain ⟨G,hGe⟩:∃ G,G=w2.heap.size:=⟨_,rfl⟩
   rw [← hGe] at hG3 ⊢
   clear hGe
   have HKP:=Lib.hid (fun (w':World) (hb:Below w3.heap.size w3 w')=>(⟨⟨(hG3.below hb).c0,(hG3.below hb).c1,(hG3.below hb).c2,(hG3.below hb).c3,(hG3.below hb).c4,(hG3.below hb).c5⟩,HR3.out.below hb,HB3.out.trans (hb.mono HB3.out.size)⟩:(w'.cell? ⟨G,0,none⟩=some (.int .i64 x.bef)∧w'.cell? ⟨G,1,none⟩=some (.int .i64 x.hgt)∧w'.cell? ⟨G,2,none⟩=some (.int .i64 x.view)∧w'.cell? ⟨G,3,none⟩=some (.slice aG 0 cG)∧w'.cell? ⟨G,4,none⟩=some (.int .i64 x.root)∧w'.cell? ⟨G,5,none⟩=some (.int .i64 x.effs))∧RowE w' (some ⟨g,0,none⟩) S.length S∧Below w.heap.size w w'))
   have hkp0:=(HKP.out w3 (Below.refl _ _)).1
   have HFS:=Lib.hid (firstBlock_spec (some ⟨g,0,none⟩) S.length c S w3.drew (HKP.out _ (Below.refl _ _).drew).2.1)
   clear hG3
   go_region_held3 (fun w'=>w'.cell? ⟨G,0,none⟩=some (.int .i64 x.bef)∧w'.cell? ⟨G,1,none⟩=some (.int .i64 x.hgt)∧w'.cell? ⟨G,2,none⟩=some (.int .i64 x.view)∧w'.cell? ⟨G,3,none⟩=some (.slice aG 0 cG)∧w'.cell? ⟨G,4,none⟩=some (.int .i64 x.root)∧w'.cell? ⟨G,5,none⟩=some (.int .i64 x.effs)) (first | exact hkp0 | exact hkp | exact hkp2 | go_keep)
    (first | (go_at_call 7;(with_reducible refine HFS.out.mono ?_);intro e1 w4 hF4;rw [← HX.out] at hF4;obtain ⟨aW,cW,rfl,-,hb4'⟩:=hF4.none HXA.out;have hb4:=(Below.refl w3.heap.size w3).drew.trans hb4';have hkp:=(HKP.out _ hb4).1) | (go_at_call 6;refine (sameBlock_same x.bef x.hgt x.view x.root x.effs aG 0 cG aW cW [] _ (rowA_none _ _) (rowA_none _ _)).mono ?_;rintro e1 w5 ⟨rfl,hb5'⟩;have hb5:=hb4.trans (hb5'.mono hb4.size);have hkp2:=(HKP.out _ hb5).1))
   have HB5:=Lib.hid hb5
   clear hkp0 hkp hkp2 hF4 hb4 hb4' hb5 hb5' HFS
   go_wp2_with fail
   refine (storeValid_spec _ _ c S _ (HKP.out _ HB5.out).2.1).mono ?_;rintro e w6 ⟨rfl,hd6⟩
   have HB6:=Lib.hid (HB5.out.trans ((hd6.below w5.heap.size).mono HB5.out.size))
   clear hd6 HB5
   obtain ⟨k0,k1,k2,k3,k4,k5⟩:=(HKP.out w6 HB6.out).1
   cases hst:storeB S with
   | false =>
    have hxx:x=noBlk:=by rw [HX.out];exact firstM_no hst
    subst hxx
    clear hst
    simp only [noBlk] at k0 k1 k2 k3 k4 k5
    go_wp2_with fail
    refine (alive_any _).mono ?_;rintro e w7 ⟨rfl,hb7⟩
    have HBF:=Lib.hid (HKP.out w7 (HB6.out.trans (hb7.mono HB6.out.size))).2.2
    clear k0 k1 k2 k3 k4 k5 hb7
    go_wp2
    go_ret
    exact ⟨rfl,HBF.out⟩
   | true =>
    have HV:Hid (blkB ⟨x.bef,x.hgt,x.view,[],x.root,x.effs⟩=true):=Lib.hid (by have:=firstM_ok hst;rw [← HX.out] at this;rw [← HXA.out];exact this)
    have HRT:Hid (rightB ⟨x.bef,x.hgt,x.view,[],x.root,x.effs⟩ S=true):=Lib.hid (by have:=firstM_right hst;rw [← HX.out] at this;rw [← HXA.out];exact this)
    have HX1:Hid (x.hgt=0):=Lib.hid (by rw [HX.out,firstM_yes hst])
    clear hst
    go_wp2_with fail
    refine (blockValid_impl x.bef x.hgt x.view x.root x.effs aG 0 cG [] _ (rowA_none _ _)).mono ?_;rintro e w7 ⟨rfl,hb7⟩
    rw [HV.out]
    have HB7:=Lib.hid (HB6.out.trans (hb7.mono HB6.out.size))
    clear k0 k1 k2 k3 k4 k5 hb7 HB6
    obtain ⟨⟨k0,k1,k2,k3,k4,k5⟩,hrr,-⟩:=HKP.out w7 HB7.out
    go_wp2_with fail
    refine (blockRight_impl x.bef x.hgt x.view x.root x.effs aG 0 cG [] _ _ c S _ (rowA_none _ _) hrr (fun h=>by cases h)).mono ?_;rintro e w8 ⟨rfl,hb8⟩
    rw [HRT.out]
    have HB8:=Lib.hid (HB7.out.trans (hb8.mono HB7.out.size))
    clear k0 k1 k2 k3 k4 k5 hb8 HB7 hrr
    obtain ⟨⟨k0,k1,k2,k3,k4,k5⟩,-,hbf⟩:=HKP.out w8 HB8.out
    rw [HX1.out] at k1
    have HBF:=Lib.hid hbf
    clear hbf
    go_wp2
    go_ret
    exact ⟨rfl,HBF.out⟩
 · have hs':(1048576:Int) < (len:Int):=by omega
   clear h hlc
   go_enter Try.func3,Try.ntmps3
   go_wp2
   go_ret
   exact ⟨rfl,Below.refl _ _⟩
end Go.Proofs.Ytnojhgckinibgab

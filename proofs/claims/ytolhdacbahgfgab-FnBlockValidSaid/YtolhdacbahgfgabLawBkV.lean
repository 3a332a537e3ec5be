/- The walk of the law FnBlockValid (gen18/lawbkv.py). -/
import Derived.Test.YtolhdacbahgfgabDrawBk
import Derived.Test.YtolhdacbahgfgabBkI
import Derived.Test.YtolhdacbahgfgabSpB
import Derived.Test.YtolhdacbahgfgabOne
import Derived.Deep.Cut
namespace Go.Proofs.Ytolhdacbahgfgab
open Go.RowKit
set_option linter.unusedVariables false
set_option linter.unusedSimpArgs false
theorem blk_view_high (p q t u:Int) (L:List Acn):blkB ⟨p,q,1001,L,t,u⟩=false:=by simp [blkB,inB]
set_option maxRecDepth 100000 in
set_option maxHeartbeats 8000000 in
theorem lawBlockValid (a:Option Addr) (len cap:Nat) (z:List Int) (w:World) (h:RowB w a len z) (hc:a=none→cap=0) (hlc:len≤cap) :
  Calls Try.prog 3 #[.slice a len cap] w (LawTrue w):=by
 by_cases hs:len≤1048576
 · have hs':¬ (1048576:Int) < (len:Int):=by omega
   go_enter Try.func3,Try.ntmps3
   go_wp2_with fail
   refine (drawBlockValid_any a len cap z w h hlc).mono ?_;rintro e w1 ⟨p,q,r,a9,n,c,t,u,L,rfl,hra,hl,hb1⟩
   have HB1:=Lib.hid hb1
   have HRA:=Lib.hid hra
   clear h hs hs' hc hlc hb1 hra
   go_upto_region 4 with (fail)
   generalize hw2:World.alloc _ _=w2
   have hb2:Below w1.heap.size w1 w2:=by rw [← hw2];exact (Below.refl _ _).alloc (Nat.le_refl _) _
   have hX2:BkAt w2 w1.heap.size (.int .i64 p) (.int .i64 q) (.int .i64 r) (.slice a9 n c) (.int .i64 t) (.int .i64 u):=by rw [← hw2];exact bkAt_new w1 _ _ _ _ _ _ _
   have HK:=Lib.hid (fun (W:World) (hb:Below w2.heap.size w2 W)=>(⟨hX2.below hb,(HRA.out.below hb2).below hb,HB1.out.trans ((hb2.trans (hb.mono hb2.size)).mono HB1.out.size)⟩:BkAt W w1.heap.size (.int .i64 p) (.int .i64 q) (.int .i64 r) (.slice a9 n c) (.int .i64 t) (.int .i64 u)∧RowA W a9 n L∧Below w.heap.size w W))
   obtain ⟨Z,hZe⟩:∃ Z,Z=w1.heap.size:=⟨_,rfl⟩
   rw [← hZe] at HK ⊢
   clear hw2 hb2 hX2 hZe HB1 HRA
   obtain ⟨x,hx⟩:∃ x,blkB ⟨p,q,r,L,t,u⟩=x:=⟨_,rfl⟩
   have HX:=Lib.hid hx
   have hxx:(x != x)=false:=by cases x <;> rfl
   clear hx
   obtain ⟨⟨c0,c1,c2,c3,c4,c5,-⟩,hr2,-⟩:=HK.out w2 (Below.refl _ _)
   have HC:=Lib.hid (blockValid_impl p q r t u a9 n c L w2 hr2)
   clear hr2
   go_wp2_with fail
   refine HC.out.mono ?_;rintro e w3 ⟨rfl,hb3⟩
   rw [HX.out]
   have HB3:=Lib.hid hb3
   clear c0 c1 c2 c3 c4 c5 hb3 HC
   obtain ⟨⟨c0,c1,c2,c3,c4,c5,-⟩,hr3,-⟩:=HK.out w3 HB3.out
   have HC:=Lib.hid (blockValid_spec p q r t u a9 n c L w3 hr3)
   clear hr3
   go_wp2_with fail
   refine HC.out.mono ?_;rintro e w4 ⟨rfl,hb4⟩
   rw [HX.out]
   have HB4:=Lib.hid (HB3.out.trans (hb4.mono HB3.out.size))
   clear c0 c1 c2 c3 c4 c5 hb4 HB3 HC
   obtain ⟨⟨c0,c1,c2,c3,c4,c5,-⟩,-,-⟩:=HK.out w4 HB4.out
   go_upto_region 8 with (fail)
   generalize hw5:World.alloc _ _=w5
   have hb5:Below w4.heap.size w4 w5:=by rw [← hw5];exact (Below.refl _ _).alloc (Nat.le_refl _) _
   have hY5:BkAt w5 w4.heap.size (.int .i64 p) (.int .i64 q) (.int .i64 r) (.slice a9 n c) (.int .i64 t) (.int .i64 u):=by rw [← hw5];exact bkAt_new w4 _ _ _ _ _ _ _
   obtain ⟨Y,hY⟩:∃ Y,Y=w4.heap.size:=⟨_,rfl⟩
   have hYB:w2.heap.size≤Y:=by have:=HB4.out.size;omega
   rw [← hY] at hY5 ⊢
   have HB5:=Lib.hid (HB4.out.trans (hb5.mono HB4.out.size))
   clear hw5 hb5 hY c0 c1 c2 c3 c4 c5
   have hY6:=hY5.put2 (.int .i64 1001)
   have hb6:=HB5.out.setCell (p:=⟨Y,2,none⟩) hYB (.int .i64 1001)
   obtain ⟨y0,y1,y2,y3,y4,y5,yf0,yf1,yf2,yf3,yf4,yf5⟩:=hY5
   go_upto_region 9 with (fail)
   clear y0 y1 y2 y3 y4 y5 yf0 yf1 yf2 yf3 yf4 yf5
   generalize hww:World.setCell w5 _ _=w6 at hY6 hb6 ⊢
   clear hww
   have HB6:=Lib.hid hb6
   clear hb6
   obtain ⟨-,hr6,-⟩:=HK.out w6 HB6.out
   have HC:=Lib.hid (blockValid_impl p q 1001 t u a9 n c L w6 hr6)
   obtain ⟨y0,y1,y2,y3,y4,y5,-⟩:=hY6
   clear hr6
   go_wp2_with fail
   refine HC.out.mono ?_;rintro e w7 ⟨rfl,hb7⟩
   rw [blk_view_high]
   have HB7:=Lib.hid (HB6.out.trans (hb7.mono HB6.out.size))
   clear y0 y1 y2 y3 y4 y5 hb7 HB6 HC
   cases x with
   | false =>
    go_wp2_with fail
    refine (alive_any w7).mono ?_;rintro e w8 ⟨rfl,hb8⟩
    have HBF:=Lib.hid ((HK.out w7 HB7.out).2.2.trans (hb8.mono (HK.out w7 HB7.out).2.2.size))
    clear hb8
    go_wp2
    go_ret
    exact ⟨rfl,HBF.out⟩
   | true =>
    obtain ⟨⟨c0,c1,c2,c3,c4,c5,-⟩,hr7,-⟩:=HK.out w7 HB7.out
    have HC:=Lib.hid (actionsValid_impl a9 n c L w7 hr7)
    have HAV:Hid (actsB L=true):=Lib.hid (blkB_true HX.out).2.2.2.2.2
    clear hr7
    go_wp2_with fail
    refine HC.out.mono ?_;rintro e w8 ⟨rfl,hb8⟩
    rw [HAV.out]
    have HB8:=Lib.hid (HB7.out.trans (hb8.mono HB7.out.size))
    clear c0 c1 c2 c3 c4 c5 hb8 HB7 HC
    go_wp2_with fail
    refine (alive_any w8).mono ?_;rintro e w9 ⟨rfl,hb9⟩
    have HBF:=Lib.hid ((HK.out w8 HB8.out).2.2.trans (hb9.mono (HK.out w8 HB8.out).2.2.size))
    clear hb9
    go_wp2
    go_ret
    exact ⟨rfl,HBF.out⟩
 · have hs':(1048576:Int) < (len:Int):=by omega
   clear h hlc
   go_enter Try.func3,Try.ntmps3
   go_wp2
   go_ret
   exact ⟨rfl,Below.refl _ _⟩
end Go.Proofs.Ytolhdacbahgfgab

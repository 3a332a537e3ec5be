/- The walk of the law FnEngineDone (gen15/). -/
import Derived.Test.YtaaffpolmecicabGreatTenB

import Derived.Test.YtaaffpolmecicabGreatDrawEng4
import Derived.Test.YtaaffpolmecicabGreatDrawEng3
import Derived.Test.YtaaffpolmecicabGreatSameEng
import Derived.Test.YtaaffpolmecicabGreatEngLaw2
import Derived.Test.YtaaffpolmecicabGreatOne
namespace Go.Proofs.YtaaffpolmecicabGreat
open Go.RowKit
set_option linter.unusedVariables false
set_option linter.unusedSimpArgs false
theorem engRd_slotsD {w:World} {a1 a2 a3 a4:Option Addr} {n1 n2 n3 n4 c1 c2 c3 c4:Nat} {e:Eng} (h:EngRd w (.slice a1 n1 c1) (.slice a2 n2 c2) (.slice a3 n3 c3) (.slice a4 n4 c4) e):RowSl w a4 n4 e.slots:=by
 obtain ⟨-,-,-,_,_,_,h4,r4,-,-⟩:=h
 simp only [Value.slice.injEq] at h4
 obtain ⟨rfl,rfl,rfl⟩:=h4
 exact r4
set_option maxRecDepth 100000 in
set_option maxHeartbeats 8000000 in
theorem lawEngineDone (a:Option Addr) (len cap:Nat) (z:List Int) (w:World) (h:RowB w a len z) (hc:a=none→cap=0) (hlc:len≤cap) :
  Calls Tryz.prog 7 #[.slice a len cap] w (LawTrue w):=by
 by_cases hs:len≤1048576
 · have hs':¬ (1048576:Int) < (len:Int):=by omega
   go_enter Tryz.func7,Tryz.ntmps7
   go_wp2_with fail
   refine (drawEngineDone_any a len cap z w h hlc).mono ?_;rintro e w1 ⟨e01,e02,e03,e11,e12,e13,e21,e22,e23,e31,e32,e33,E,rfl,hrd,hsm,hb1⟩
   have HRD:=Lib.hid hrd
   have HSM:=Lib.hid hsm
   have HB1:=Lib.hid hb1
   clear h hs hs' hc hlc hrd hb1 hsm
   go_upto_region 4 with (fail)
   generalize hw2:World.alloc _ _=w2
   have hb2:Below w1.heap.size w1 w2:=by rw [← hw2];exact (Below.refl _ _).alloc (Nat.le_refl _) _
   have hX2:EgAt w2 w1.heap.size (.slice e01 e02 e03) (.slice e11 e12 e13) (.slice e21 e22 e23) (.slice e31 e32 e33):=by rw [← hw2];exact egAt_new w1 _ _ _ _ _
   have HK:=Lib.hid (fun (W:World) (hb:Below w2.heap.size w2 W)=>(⟨hX2.below hb,HRD.out W (hb2.trans (hb.mono hb2.size)),HB1.out.trans ((hb2.trans (hb.mono hb2.size)).mono HB1.out.size)⟩:EgAt W w1.heap.size (.slice e01 e02 e03) (.slice e11 e12 e13) (.slice e21 e22 e23) (.slice e31 e32 e33)∧EngRd W (.slice e01 e02 e03) (.slice e11 e12 e13) (.slice e21 e22 e23) (.slice e31 e32 e33) E∧Below w.heap.size w W))
   obtain ⟨Z,hZe⟩:∃ Z,Z=w1.heap.size:=⟨_,rfl⟩
   rw [← hZe] at HK ⊢
   clear hw2 hb2 hX2 hZe HRD HB1
   obtain ⟨ok,hok⟩:∃ ok,ok=doneE E:=⟨_,rfl⟩
   have HN:=Lib.hid hok
   have HD:Hid (ok=true→engB E=true∧∀ n,n < E.slots.length→stg E n=2):=Lib.hid (fun h=>(doneE_iff E).1 (by rw [← hok];exact h))
   have hcc:(ok != ok)=false:=by cases ok <;> rfl
   clear hok
   obtain ⟨⟨m0,m1,m2,m3,-⟩,hr2,-⟩:=HK.out w2 (Below.refl _ _)
   have HC:=Lib.hid (engineDone_impl _ _ _ _ E w2 hr2)
   rw [← HN.out] at HC
   clear hr2
   go_wp2_with fail
   refine HC.out.mono ?_;rintro en w3 ⟨rfl,hb3⟩
   have HB3:=Lib.hid hb3
   clear m0 m1 m2 m3 HC hb3
   obtain ⟨⟨m0,m1,m2,m3,-⟩,hr3,-⟩:=HK.out w3 HB3.out
   have HC:=Lib.hid (engineDone_spec _ _ _ _ E w3 hr3)
   rw [← HN.out] at HC
   clear hr3
   go_wp2_with fail
   refine HC.out.mono ?_;rintro en w4 ⟨rfl,hb4⟩
   have HB4:=Lib.hid (HB3.out.trans (hb4.mono HB3.out.size))
   clear m0 m1 m2 m3 HC hb4
   obtain ⟨⟨m0,m1,m2,m3,-⟩,hr4,-⟩:=HK.out w4 HB4.out
   have HSL:=Lib.hid (engRd_slotsD hr4)
   have HL:Hid (E.slots.length=e32):=Lib.hid HSL.out.1
   clear hr4
   go_wp2_with fail
   go_loopw [5] (fun i wr=>∃ k:Nat,k≤e32∧i = .int .i64 k∧wr=w4) (fun i _=>e32 - (intOf i).toNat)
   case atStart=>exact ⟨0,Nat.zero_le _,rfl,rfl⟩
   case round =>
    obtain ⟨k,hk,rfl,rfl⟩:=hrel
    by_cases hlt:k < e32
    · obtain ⟨b4,o4,rfl,hsl⟩:=HSL.out.at k hlt
      have s0:=hsl.stage
      have ew:IntKind.i64.wrap ((k:Int)+1)=(k:Int)+1:=by have:=HSL.out.2.1;unfold maxLen at this;exact IntWalk.i64_in _ (by omega)
      have i1:(0:Int)≤(k:Int):=by omega
      have i2:(k:Int) < (e32:Int):=by omega
      clear hsl
      cases ok with
      | false =>
       go_wp2_with fail
       go_roundw
       case rel=>exact ⟨k+1,by omega,by go_num,by trivial⟩
       case measure=>simp [intOf];omega
      | true =>
       have hst:(E.slots.getD k noSlt).stage=2:=(HD.out rfl).2 k (by rw [HL.out];exact hlt)
       rw [hst] at s0
       clear hst
       go_wp2_with fail
       go_roundw
       case rel=>exact ⟨k+1,by omega,by go_num,by trivial⟩
       case measure=>simp [intOf];omega
    · obtain rfl:k=e32:=by omega
      cases ok with
      | false =>
       go_wp2_with fail
       refine (alive_any _).mono ?_;rintro en w5 ⟨rfl,hb5⟩
       have HBF:=Lib.hid (HK.out w5 (HB4.out.trans (hb5.mono HB4.out.size))).2.2
       clear hb5
       go_wp2
       go_ret
       exact ⟨rfl,HBF.out⟩
      | true =>
       have HC:=Lib.hid (engineValid_impl _ _ _ _ E wr (HK.out wr HB4.out).2.1)
       rw [(HD.out rfl).1] at HC
       go_wp2_with fail
       refine HC.out.mono ?_;rintro en w5 ⟨rfl,hb5⟩
       have HB5:=Lib.hid (HB4.out.trans (hb5.mono HB4.out.size))
       clear m0 m1 m2 m3 HC hb5
       go_wp2_with fail
       refine (alive_any _).mono ?_;rintro en w6 ⟨rfl,hb6⟩
       have HBF:=Lib.hid (HK.out w6 (HB5.out.trans (hb6.mono HB5.out.size))).2.2
       clear hb6
       go_wp2
       go_ret
       exact ⟨rfl,HBF.out⟩
 · have hs':(1048576:Int) < (len:Int):=by omega
   clear h hlc
   go_enter Tryz.func7,Tryz.ntmps7
   go_wp2
   go_ret
   exact ⟨rfl,Below.refl _ _⟩
end Go.Proofs.YtaaffpolmecicabGreat

/- The walk of the law FnTriesOf (gen15/). -/
import Derived.Test.YtaaffpolmecicabGreatImplTries
import Derived.Test.YtaaffpolmecicabGreatImplE
import Derived.Test.YtaaffpolmecicabGreatDrawEng3
import Derived.Test.YtaaffpolmecicabGreatSameEng
import Derived.Test.YtaaffpolmecicabGreatEngLaw2
import Derived.Test.YtaaffpolmecicabGreatOne
namespace Go.Proofs.YtaaffpolmecicabGreat
open Go.RowKit
set_option linter.unusedVariables false
set_option linter.unusedSimpArgs false
theorem newEng_formT {w:World} {B T:Nat} {t:EngT} {v1 v2 v3 v4:Value} {e:Eng} {ts:List (Value × Value × Value)} (h:EngOwn w B T t v1 v2 v3 v4 e ts):∃ b1 m1 d1 b2 m2 d2 b3 m3 d3 b4 m4 d4,v1 = .slice b1 m1 d1∧v2 = .slice b2 m2 d2∧v3 = .slice b3 m3 d3∧v4 = .slice b4 m4 d4:=by
 obtain ⟨⟨b1,m1,d1,rfl,-⟩,⟨b2,m2,d2,rfl,-⟩,⟨b3,m3,d3,rfl,-⟩,b4,m4,d4,rfl,-⟩:=h.rd
 exact ⟨b1,m1,d1,b2,m2,d2,b3,m3,d3,b4,m4,d4,rfl,rfl,rfl,rfl⟩
theorem engRd_slots {w:World} {a1 a2 a3 a4:Option Addr} {n1 n2 n3 n4 c1 c2 c3 c4:Nat} {e:Eng} (h:EngRd w (.slice a1 n1 c1) (.slice a2 n2 c2) (.slice a3 n3 c3) (.slice a4 n4 c4) e):RowSl w a4 n4 e.slots:=by
 obtain ⟨-,-,-,_,_,_,h4,r4,-,-⟩:=h
 simp only [Value.slice.injEq] at h4
 obtain ⟨rfl,rfl,rfl⟩:=h4
 exact r4
theorem tries_facts (e:Eng):(triesM e < 0→triesM e = -1)∧(0≤triesM e→EngOk e∧triesM e=triesTo e e.slots.length∧triesM e≤10000∧e.slots.length≤10):=by
 unfold triesM
 split
 · rename_i h
   have ho:=(engB_iff e).1 h
   have hb:=triesTo_bd ho e.slots.length (Nat.le_refl _)
   have h10:=ho.ten
   exact ⟨fun h=>by omega,fun _=>⟨ho,rfl,by omega,h10⟩⟩
 · exact ⟨fun _=>rfl,fun h=>by omega⟩
set_option maxRecDepth 100000 in
set_option maxHeartbeats 8000000 in
theorem lawTriesOf (a:Option Addr) (len cap:Nat) (z:List Int) (w:World) (h:RowB w a len z) (hc:a=none→cap=0) (hlc:len≤cap) :
  Calls Tryz.prog 12 #[.slice a len cap] w (LawTrue w):=by
 by_cases hs:len≤1048576
 · have hs':¬ (1048576:Int) < (len:Int):=by omega
   go_enter Tryz.func12,Tryz.ntmps12
   go_wp2_with fail
   refine (drawTriesOf_any a len cap z w h hlc).mono ?_;rintro e w1 ⟨e01,e02,e03,e11,e12,e13,e21,e22,e23,e31,e32,e33,E,rfl,hrd,hsm,hb1⟩
   have HRD:=Lib.hid hrd
   have HSM:=Lib.hid hsm
   have HB1:=Lib.hid hb1
   clear h hs hs' hc hlc hrd hb1 hsm
   go_upto_region 4 with (fail)
   generalize hw2:World.alloc _ _=w2
   have hb2:Below w1.heap.size w1 w2:=by rw [← hw2];exact (Below.refl _ _).alloc (Nat.le_refl _) _
   have hX2:EgAt w2 w1.heap.size (.slice e01 e02 e03) (.slice e11 e12 e13) (.slice e21 e22 e23) (.slice e31 e32 e33):=by rw [← hw2];exact egAt_new w1 _ _ _ _ _
   have HK:=Lib.hid (fun (W:World) (hb:Below w2.heap.size w2 W)=>(⟨hX2.below hb,HRD.out W (hb2.trans (hb.mono hb2.size)),HB1.out.trans ((hb2.trans (hb.mono hb2.size)).mono HB1.out.size)⟩:EgAt W w1.heap.size (.slice e01 e02 e03) (.slice e11 e12 e13) (.slice e21 e22 e23) (.slice e31 e32 e33)∧EngRd W (.slice e01 e02 e03) (.slice e11 e12 e13) (.slice e21 e22 e23) (.slice e31 e32 e33) E∧Below w.heap.size w W))
   obtain ⟨Z,hZe⟩:∃ Z,Z=w1.heap.size:=⟨_,rfl⟩
   rw [← hZe] at HK ⊢
   clear hw2 hb2 hX2 hZe HRD HB1
   obtain ⟨n,hn⟩:∃ n,n=triesM E:=⟨_,rfl⟩
   have HN:=Lib.hid hn
   have HF:=Lib.hid (tries_facts E)
   rw [← hn] at HF
   have hcc:(n != n)=false:=by simp
   clear hn
   obtain ⟨⟨m0,m1,m2,m3,-⟩,hr2,-⟩:=HK.out w2 (Below.refl _ _)
   have HC:=Lib.hid (triesOf_impl _ _ _ _ E w2 hr2)
   rw [← HN.out] at HC
   clear hr2
   go_wp2_with fail
   refine HC.out.mono ?_;rintro en w3 ⟨rfl,hb3⟩
   have HB3:=Lib.hid hb3
   clear m0 m1 m2 m3 HC hb3
   obtain ⟨⟨m0,m1,m2,m3,-⟩,hr3,-⟩:=HK.out w3 HB3.out
   have HC:=Lib.hid (triesOf_spec _ _ _ _ E w3 hr3)
   rw [← HN.out] at HC
   clear hr3
   by_cases hneg:n < 0
   · have hd7:decide (n < 0)=true:=by simp;exact hneg
     have hn1:n = -1:=HF.out.1 hneg
     have hd8:(n == -1)=true:=by rw [hn1];rfl
     clear hn1
     go_wp2_with fail
     refine HC.out.mono ?_;rintro en w4 ⟨rfl,hb4⟩
     have HB4:=Lib.hid (HB3.out.trans (hb4.mono HB3.out.size))
     clear m0 m1 m2 m3 HC hb4
     go_wp2_with fail
     refine (alive_any _).mono ?_;rintro en w5 ⟨rfl,hb5⟩
     have HBF:=Lib.hid (HK.out w5 (HB4.out.trans (hb5.mono HB4.out.size))).2.2
     clear hb5
     go_wp2
     go_ret
     exact ⟨rfl,HBF.out⟩
   · have hd7:decide (n < 0)=false:=by simp;omega
     have HG:=Lib.hid (HF.out.2 (by omega))
     clear hneg
     go_wp2_with fail
     refine HC.out.mono ?_;rintro en w4 ⟨rfl,hb4⟩
     have HB4:=Lib.hid (HB3.out.trans (hb4.mono HB3.out.size))
     clear m0 m1 m2 m3 HC hb4
     obtain ⟨⟨m0,m1,m2,m3,-⟩,hr4,-⟩:=HK.out w4 HB4.out
     have HSL:=Lib.hid (engRd_slots hr4)
     have HL:Hid (E.slots.length=e32):=Lib.hid HSL.out.1
     clear hr4
     go_wp2_with fail
     go_loopw [5,6] (fun s i wr=>∃ k:Nat,k≤e32∧i = .int .i64 k∧s = .int .i64 (manyM E k)∧wr=w4) (fun _ i _=>e32 - (intOf i).toNat)
     case atStart=>exact ⟨0,Nat.zero_le _,rfl,rfl,rfl⟩
     case round =>
      obtain ⟨k,hk,rfl,rfl,rfl⟩:=hrel
      have hml:=many_le HG.out.1 k (by rw [HL.out];exact hk)
      have h10:=HG.out.2.2.2
      rw [HL.out] at h10
      by_cases hlt:k < e32
      · obtain ⟨b4,o4,rfl,hsl⟩:=HSL.out.at k hlt
        have s0:=hsl.stage
        have HNX:Hid (manyM E (k+1)=manyM E k+if stg E k=0 then 0 else 1):=Lib.hid rfl
        obtain ⟨st,hst⟩:∃ st,st=stg E k:=⟨_,rfl⟩
        rw [show (E.slots.getD k noSlt).stage=stg E k from rfl,← hst] at s0
        rw [← hst] at HNX
        obtain ⟨sm,hsm⟩:∃ sm,sm=manyM E k:=⟨_,rfl⟩
        rw [← hsm] at hml HNX ⊢
        clear hst hsm hsl
        have ew:IntKind.i64.wrap (sm+1)=sm+1:=IntWalk.i64_in _ (by omega)
        have i1:(0:Int)≤(k:Int):=by omega
        have i2:(k:Int) < (e32:Int):=by omega
        by_cases h0:st=0
        · have hd0:(st != 0)=false:=by simp [h0]
          have HQ:Hid (manyM E (k+1)=sm):=Lib.hid (by rw [HNX.out,if_pos h0];omega)
          clear h0 hml
          go_wp2_with fail
          go_roundw
          case rel=>exact ⟨k+1,by omega,by go_num,by rw [HQ.out],by trivial⟩
          case measure=>simp [intOf];omega
        · have hd0:(st != 0)=true:=by simp [h0]
          have HQ:Hid (manyM E (k+1)=sm+1):=Lib.hid (by rw [HNX.out,if_neg h0])
          clear h0 hml
          go_wp2_with fail
          go_roundw
          case rel=>exact ⟨k+1,by omega,by go_num,by rw [HQ.out],by trivial⟩
          case measure=>simp [intOf];omega
      · obtain rfl:k=e32:=by omega
        obtain ⟨mm,hmm⟩:∃ mm,mm=manyM E k:=⟨_,rfl⟩
        rw [← hmm] at hml ⊢
        have hle:mm≤n:=by
         have h1:=hml.2.2
         have h2:=HG.out.2.1
         rw [HL.out] at h2
         omega
        have hd16:decide (mm≤n)=true:=by simp;exact hle
        have HNB:Hid (n≤10000):=Lib.hid HG.out.2.2.1
        have hnb:=HNB.out
        have ew:IntKind.i64.wrap (n+1)=n+1:=IntWalk.i64_in _ (by omega)
        clear hmm hml hle h10
        obtain ⟨ex,hex⟩:∃ ex,ex=(stepM E 0).1:=⟨_,rfl⟩
        obtain ⟨ok,hok⟩:∃ ok,ok=(stepM E 0).2:=⟨_,rfl⟩
        have HST:Hid (ok=true→n≤triesM ex∧triesM ex≤n+1):=Lib.hid (fun h=>by rw [HN.out,hex];exact step_tries (by rw [← hok];exact h))
        have HEQ:=Lib.hid (⟨hex.symm,hok.symm⟩:(stepM E 0).1=ex∧(stepM E 0).2=ok)
        clear hex hok
        have HC:=Lib.hid (engineStep_impl _ _ _ _ E 0 wr (HK.out wr HB4.out).2.1)
        go_wp2_with fail
        refine HC.out.mono ?_;rintro en w5 ⟨x1,x2,x3,x4,tsx,rfl,ho5,hb5⟩
        obtain ⟨p01,p02,p03,p11,p12,p13,p21,p22,p23,p31,p32,p33,rfl,rfl,rfl,rfl⟩:=newEng_formT ho5
        rw [HEQ.out.1] at ho5
        rw [HEQ.out.2]
        have HB5:=Lib.hid (HB4.out.trans (hb5.mono HB4.out.size))
        clear m0 m1 m2 m3 HC hb5 HSL
        go_upto_region 16 with (fail)
        generalize hw6:World.alloc _ _=w6
        have hb6:Below w5.heap.size w5 w6:=by rw [← hw6];exact (Below.refl _ _).alloc (Nat.le_refl _) _
        have hX6:EgAt w6 w5.heap.size (.slice p01 p02 p03) (.slice p11 p12 p13) (.slice p21 p22 p23) (.slice p31 p32 p33):=by rw [← hw6];exact egAt_new w5 _ _ _ _ _
        have HKX:=Lib.hid (fun (W:World) (hb:Below w6.heap.size w6 W)=>(⟨hX6.below hb,((ho5.below hb6).below hb).rd,HB5.out.trans ((hb6.trans (hb.mono hb6.size)).mono HB5.out.size)⟩:EgAt W w5.heap.size (.slice p01 p02 p03) (.slice p11 p12 p13) (.slice p21 p22 p23) (.slice p31 p32 p33)∧EngRd W (.slice p01 p02 p03) (.slice p11 p12 p13) (.slice p21 p22 p23) (.slice p31 p32 p33) ex∧Below w2.heap.size w2 W))
        obtain ⟨X,hXe⟩:∃ X,X=w5.heap.size:=⟨_,rfl⟩
        rw [← hXe] at HKX ⊢
        clear hw6 hb6 hX6 hXe HB5 ho5
        cases ok with
        | false =>
         have HBF:=Lib.hid (HK.out w6 (HKX.out w6 (Below.refl _ _)).2.2).2.2
         go_wp2
         go_ret
         exact ⟨rfl,HBF.out⟩
        | true =>
         obtain ⟨nx,hnx⟩:∃ nx,nx=triesM ex:=⟨_,rfl⟩
         have hst:=HST.out rfl
         rw [← hnx] at hst
         have hd1:decide (n≤nx)=true:=by simp;exact hst.1
         have hd2:decide (nx≤n+1)=true:=by simp;exact hst.2
         clear hst
         obtain ⟨⟨m0,m1,m2,m3,-⟩,hr6,-⟩:=HKX.out w6 (Below.refl _ _)
         have HC:=Lib.hid (triesOf_impl _ _ _ _ ex w6 hr6)
         rw [← hnx] at HC
         have HNX:=Lib.hid hnx
         clear hr6 hnx
         go_wp2_with fail
         refine HC.out.mono ?_;rintro en w7 ⟨rfl,hb7⟩
         have HX7:=Lib.hid hb7
         clear m0 m1 m2 m3 HC hb7
         obtain ⟨⟨m0,m1,m2,m3,-⟩,hr7,-⟩:=HKX.out w7 HX7.out
         have HC:=Lib.hid (triesOf_impl _ _ _ _ ex w7 hr7)
         rw [← HNX.out] at HC
         clear hr7
         go_wp2_with fail
         refine HC.out.mono ?_;rintro en w8 ⟨rfl,hb8⟩
         have HBF:=Lib.hid (HK.out w8 (HKX.out w8 (HX7.out.trans (hb8.mono HX7.out.size))).2.2).2.2
         clear m0 m1 m2 m3 HC hb8
         go_wp2
         go_ret
         exact ⟨rfl,HBF.out⟩
 · have hs':(1048576:Int) < (len:Int):=by omega
   clear h hlc
   go_enter Tryz.func12,Tryz.ntmps12
   go_wp2
   go_ret
   exact ⟨rfl,Below.refl _ _⟩
end Go.Proofs.YtaaffpolmecicabGreat

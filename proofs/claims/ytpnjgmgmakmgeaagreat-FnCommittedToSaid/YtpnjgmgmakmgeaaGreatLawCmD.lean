/- The walk of the law FnCommittedTo (gen19/lawcmd.py). -/
import Derived.Test.YtpnjgmgmakmgeaaGreatDrC
import Derived.Test.YtpnjgmgmakmgeaaGreatCmI
import Derived.Test.YtpnjgmgmakmgeaaGreatCmS
import Derived.Test.YtpnjgmgmakmgeaaGreatOne

import Derived.BigQuiet
namespace Go.Proofs.YtpnjgmgmakmgeaaGreat
open Go.RowKit
set_option linter.unusedVariables false
set_option linter.unusedSimpArgs false
set_option maxRecDepth 100000 in
set_option maxHeartbeats 8000000 in
theorem lawCommittedTo (a:Option Addr) (len cap:Nat) (z:List Int) (w:World) (h:RowB w a len z) (hc:a=none→cap=0) (hlc:len≤cap) :
  Calls Tryz.prog 14 #[.slice a len cap] w (LawTrue w):=by
 by_cases hs:len≤1048576
 case neg =>
  have hs':(1048576:Int) < (len:Int):=by omega
  clear h hlc
  go_enter Tryz.func14,Tryz.ntmps14
  go_wp2
  go_ret
  exact ⟨rfl,Below.refl _ _⟩
 case pos =>
  have hs':¬ (1048576:Int) < (len:Int):=by omega
  go_enter Tryz.func14,Tryz.ntmps14
  go_wp2_with fail
  refine (drawCommittedTo_any a len cap z w h hlc).mono ?_;rintro e w1 ⟨b1,m1,d1,b2,m2,d2,b3,m3,d3,t,g,nx,cx,L,rfl,hrd,hsm,hnc,hn31,hb1⟩
  have HRD:=Lib.hid hrd
  have HB1:=Lib.hid hb1
  have HNC:=Lib.hid hnc
  have HN31:=Lib.hid hn31
  clear h hs hs' hc hlc hrd hb1 hsm hnc hn31
  go_upto_region 4 with (fail)
  generalize hw2:World.alloc _ _=w2
  have hb2:Below w1.heap.size w1 w2:=by rw [← hw2];exact (Below.refl _ _).alloc (Nat.le_refl _) _
  have hX2:TrAt w2 w1.heap.size (.slice b1 m1 d1) (.slice b2 m2 d2) (.slice b3 m3 d3):=by rw [← hw2];exact trAt_new w1 _ _ _ _
  obtain ⟨Z,hZ⟩:∃ Z,Z=w1.heap.size:=⟨_,rfl⟩
  rw [← hZ] at hX2 ⊢
  have HK:=Lib.hid (fun (W:World) (hb:Below w2.heap.size w2 W)=>(⟨hX2.below hb,(HRD.out W (fun k _ h2=>(hb2.trans (hb.mono hb2.size)).block k h2)).1,(HRD.out W (fun k _ h2=>(hb2.trans (hb.mono hb2.size)).block k h2)).2,HB1.out.trans ((hb2.trans (hb.mono hb2.size)).mono HB1.out.size)⟩:TrAt W Z (.slice b1 m1 d1) (.slice b2 m2 d2) (.slice b3 m3 d3)∧TreRd W (.slice b1 m1 d1) (.slice b2 m2 d2) (.slice b3 m3 d3) t∧RowV W (some ⟨g,0,none⟩) nx L∧Below w.heap.size w W))
  clear hw2 hb2 hX2 hZ HRD HB1
  obtain ⟨m,hm⟩:∃ m,ctM t L=m:=⟨_,rfl⟩
  have HM:=Lib.hid hm
  have hmm:(m != m)=false:=by simp
  clear hm
  obtain ⟨⟨z0,z1,z2,-⟩,hr,hv,-⟩:=HK.out w2 (Below.refl _ _)
  have HR:=Lib.hid hr
  have HV:=Lib.hid hv
  clear hr hv
  go_wp2_with fail
  refine (committedTo_impl _ _ _ t _ _ cx L w2 HR.out HV.out).mono ?_;rintro e w3 ⟨rfl,hb3⟩
  clear z0 z1 z2 HR HV
  rw [HM.out]
  have HB3:=Lib.hid hb3
  clear hb3
  obtain ⟨⟨z0,z1,z2,-⟩,hr,hv,-⟩:=HK.out w3 HB3.out
  have HR:=Lib.hid hr
  have HV:=Lib.hid hv
  clear hr hv
  go_wp2_with fail
  refine (committedTo_spec _ _ _ t _ _ cx L w3 HR.out HV.out).mono ?_;rintro e w4 ⟨rfl,hb4⟩
  clear z0 z1 z2 HR HV
  rw [HM.out]
  have HB4:=Lib.hid (HB3.out.trans (hb4.mono HB3.out.size))
  clear hb4 HB3
  rcases cerM_cases t L with ⟨hf,-⟩ | ⟨ht,-,-,hl,hp,h14⟩
  · obtain rfl:m = -1:=by rw [← HM.out];unfold ctM;rw [hf];rfl
    clear hf hmm
    go_wp2_with fail
    refine (alive_any _).mono ?_;rintro e wz ⟨rfl,hbz⟩
    have HBF:=Lib.hid ((HK.out w4 HB4.out).2.2.2.trans (hbz.mono (HK.out w4 HB4.out).2.2.2.size))
    clear hbz
    go_wp2
    go_ret
    exact ⟨rfl,HBF.out⟩
  · obtain ⟨H,hH⟩:∃ H,H=hdsM t (cerM t L):=⟨_,rfl⟩
    have hmH:m=ctoM t H:=by rw [← HM.out,hH];unfold ctM;rw [if_neg (by omega)]
    have hHm:∀ x∈H,∃ k:Nat,x=k∧k < t.blocks.length:=fun x hx=>by rw [hH] at hx;obtain ⟨k,e,hk,-⟩:=hdsM_mem hx;exact ⟨k,e,by rw [← hl];exact hk⟩
    have htk:=(treB_iff t).1 ht
    obtain ⟨b,off,b3',off3,rfl,rfl,hn2,rfl,hcells⟩:=trRd_cells (HK.out w2 (Below.refl _ _)).2.1 htk
    obtain rfl:=hn2
    obtain ⟨T,hT,hTN⟩:∃ T:Nat,m=T∧T < t.blocks.length:=by
     rw [hmH]
     rcases toK_mem (V:=vwAt t) (H:=H) H.length (Nat.le_refl _) with e | e
     · exact ⟨0,e,htk.one⟩
     · exact hHm _ e
    have hTmem:T=0∨(T:Int)∈H:=by
     rcases toK_mem (V:=vwAt t) (H:=H) H.length (Nat.le_refl _) with e | e
     · left;have:ctoM t H=0:=e;omega
     · right;rw [← hT,hmH];exact e
    have hmost:=fun j hj=>toK_most (V:=vwAt t) (H:=H) H.length j hj
    have hTe:toK (vwAt t) H H.length=(T:Int):=by rw [← hT,hmH];rfl
    rw [hTe,Int.toNat_natCast] at hmost
    have hat:∀ j,j < H.length→∃ k:Nat,H.getD j 0=k∧k < t.blocks.length:=fun j hj=>hHm _ (by
     rw [List.getD_eq_getElem?_getD,List.getElem?_eq_getElem hj];exact List.getElem_mem _)
    obtain ⟨N,hN⟩:∃ N,N=t.blocks.length:=⟨_,rfl⟩
    rw [← hN] at hcells hTN hat HK
    have HTM:=Lib.hid hTmem
    have HMO:=Lib.hid hmost
    have HAT:=Lib.hid hat
    have HCE:=Lib.hid hcells
    have HHE:=Lib.hid hH
    subst hT
    clear hH hmH hHm htk hTmem hmost hTe hat hcells hN hl hp h14 ht
    have e0:decide ((T:Int) < 0)=false:=decide_eq_false (by omega)
    obtain ⟨⟨z0,z1,z2,-⟩,hr,hv,-⟩:=HK.out w4 HB4.out
    have HR:=Lib.hid hr
    have HV:=Lib.hid hv
    clear hr hv
    go_wp2_with fail
    refine (commitHeads_impl _ _ _ t _ _ cx L w4 HR.out HV.out).mono ?_;rintro e w5 ⟨vh,rfl,hoh,hwf,hlen,hb5⟩
    clear z0 z1 z2 HR HV
    rw [← HHE.out] at hoh hwf hlen
    obtain ⟨ah,ch,rfl,rh⟩:=rowI_of_owns hoh (by unfold maxLen;omega) hwf
    have HRH:=Lib.hid rh
    have HB5:=Lib.hid (HB4.out.trans (hb5.mono HB4.out.size))
    obtain ⟨nh,hnh⟩:∃ nh,nh=H.length:=⟨_,rfl⟩
    have hn14:nh≤14:=by omega
    have HNH:=Lib.hid hnh
    rw [← hnh] at HRH ⊢
    clear hoh hwf hlen rh hb5 hnh HB4 hmm
    go_wp2_with fail
    go_loopw [7] (fun i wr=>∃ k:Nat,k≤nh∧i = .int .i64 (k:Int)∧Below w5.heap.size w5 wr) (fun i _=>nh - (intOf i).toNat)
    case atStart=>exact ⟨0,Nat.zero_le _,rfl,Below.refl _ _⟩
    case round =>
     obtain ⟨k,hk,rfl,hb⟩:=hrel
     have hb25:=HB5.out.trans (hb.mono HB5.out.size)
     by_cases hlt:k < nh
     · obtain ⟨⟨z0,z1,z2,-⟩,-,-,-⟩:=HK.out wr hb25
       have hvw:=(HCE.out wr hb25).1
       obtain ⟨bh,oh,rfl,hch⟩:=(HRH.out.below hb).2.2.1 (by omega)
       obtain ⟨x,hx,hxN⟩:=HAT.out k (by rw [← HNH.out];exact hlt)
       have hmo:=HMO.out k (by rw [← HNH.out];exact hlt)
       have hcx:=hch k hlt
       rw [hx] at hcx hmo
       rw [Int.toNat_natCast] at hmo
       have hvx:=hvw x hxN
       have hvt:=hvw T hTN
       obtain ⟨vx,hvx2⟩:∃ v,v=vwAt t x:=⟨_,rfl⟩
       obtain ⟨vt,hvt2⟩:∃ v,v=vwAt t T:=⟨_,rfl⟩
       rw [← hvx2] at hvx hmo
       rw [← hvt2] at hvt hmo
       have HB:=Lib.hid hb
       have i1:(0:Int)≤(x:Int):=by omega
       have i2:(x:Int) < (N:Int):=by omega
       have i3:(0:Int)≤(T:Int):=by omega
       have i4:(T:Int) < (N:Int):=by omega
       have i5:(0:Int)≤(k:Int):=by omega
       have i6:(k:Int) < (nh:Int):=by omega
       have d1':decide ((N:Int)≤(T:Int))=false:=decide_eq_false (by omega)
       have d2':decide ((x:Int) < 0)=false:=decide_eq_false (by omega)
       have d3':decide ((N:Int)≤(x:Int))=false:=decide_eq_false (by omega)
       have d4':decide (vt < vx)=false:=decide_eq_false (by omega)
       have d5':decide (N≤T)=false:=decide_eq_false (by omega)
       have d6':decide (N≤x)=false:=decide_eq_false (by omega)
       clear hvw hch hx hxN hmo hvx2 hvt2 hb hb25 hTN
       go_upto_region 13 with (fail)
       go_quiet (fail)
       go_wp2_with fail
       go_roundw
       case rel=>exact ⟨k+1,by omega,by go_num,by first | exact HB.out | exact below_drewN' HB.out _⟩
       case measure=>simp [intOf];omega
     · obtain rfl:k=nh:=by omega
       have HBW:=Lib.hid (HK.out wr hb25).2.2.2
       by_cases h0:T=0
       · subst h0
         clear hb hb25
         go_wp2_with fail
         go_ret
         exact ⟨rfl,HBW.out⟩
       · have e1:((T:Int) == 0)=false:=by simp;omega
         have HMEM:Hid ((T:Int)∈H):=Lib.hid (by rcases HTM.out with q | q;exact absurd q h0;exact q)
         have HRW:=Lib.hid (HRH.out.below hb)
         clear hb hb25 h0
         go_wp2_with fail
         refine (hasKeyC_yes ah k ch H (T:Int) wr HRW.out HMEM.out).mono ?_;rintro e wk ⟨rfl,rfl⟩
         go_wp2_with fail
         go_ret
         exact ⟨rfl,HBW.out⟩
end Go.Proofs.YtpnjgmgmakmgeaaGreat

/- The walk of the law FnCommitsAgree (gen19/lawcmd.py). -/
import Derived.Test.YtpnjgmgmakmgeabGreatDrC
import Derived.Test.YtpnjgmgmakmgeabGreatCmI
import Derived.Test.YtpnjgmgmakmgeabGreatCmS
import Derived.Test.YtpnjgmgmakmgeabGreatOne
import Derived.Test.YtpnjgmgmakmgeabGreatTrFP
import Derived.Deep.RegionHeld3
namespace Go.Proofs.YtpnjgmgmakmgeabGreat
open Go.RowKit
set_option linter.unusedVariables false
set_option linter.unusedSimpArgs false
set_option maxRecDepth 100000 in
set_option maxHeartbeats 8000000 in
theorem lawCommitsAgree (a:Option Addr) (len cap:Nat) (z:List Int) (w:World) (h:RowB w a len z) (hc:a=none→cap=0) (hlc:len≤cap) :
  Calls Tryz.prog 3 #[.slice a len cap] w (LawTrue w):=by
 by_cases hs:len≤1048576
 case neg =>
  have hs':(1048576:Int) < (len:Int):=by omega
  clear h hlc
  go_enter Tryz.func3,Tryz.ntmps3
  go_wp2
  go_ret
  exact ⟨rfl,Below.refl _ _⟩
 case pos =>
  have hs':¬ (1048576:Int) < (len:Int):=by omega
  go_enter Tryz.func3,Tryz.ntmps3
  go_wp2_with fail
  refine (drawCommitsAgree_any a len cap z w h hlc).mono ?_;rintro e w1 ⟨b1,m1,d1,b2,m2,d2,b3,m3,d3,t,g,nx,cx,L,rfl,hrd,hsm,hnc,hn31,hb1⟩
  have HRD:=Lib.hid hrd
  have HB1:=Lib.hid hb1
  have HNC:=Lib.hid hnc
  have HN31:=Lib.hid hn31
  clear h hs hs' hc hlc hrd hb1 hsm hnc hn31
  go_upto_region 4 with (fail)
  generalize hw2:World.alloc _ _=w2
  have hb2:Below w1.heap.size w1 w2:=by rw [← hw2];exact (Below.refl _ _).alloc (Nat.le_refl _) _
  have hX2:TrAt w2 w1.heap.size (.slice b1 m1 d1) (.slice b2 m2 d2) (.slice b3 m3 d3):=by rw [← hw2];exact trAt_new w1 _ _ _ _
  obtain ⟨Z,hZ⟩:∃ Z,Z=w1.heap.size:=⟨_,rfl⟩
  rw [← hZ] at hX2 ⊢
  have HK:=Lib.hid (fun (W:World) (hb:Below w2.heap.size w2 W)=>(⟨hX2.below hb,(HRD.out W (fun k _ h2=>(hb2.trans (hb.mono hb2.size)).block k h2)).1,(HRD.out W (fun k _ h2=>(hb2.trans (hb.mono hb2.size)).block k h2)).2,HB1.out.trans ((hb2.trans (hb.mono hb2.size)).mono HB1.out.size)⟩:TrAt W Z (.slice b1 m1 d1) (.slice b2 m2 d2) (.slice b3 m3 d3)∧TreRd W (.slice b1 m1 d1) (.slice b2 m2 d2) (.slice b3 m3 d3) t∧RowV W (some ⟨g,0,none⟩) nx L∧Below w.heap.size w W))
  clear hw2 hb2 hX2 hZ HRD HB1
  obtain ⟨m,hm⟩:∃ m,agM t L=m:=⟨_,rfl⟩
  have HM:=Lib.hid hm
  have hmm:(m != m)=false:=by simp
  clear hm
  obtain ⟨⟨z0,z1,z2,-⟩,hr,hv,-⟩:=HK.out w2 (Below.refl _ _)
  have HR:=Lib.hid hr
  have HV:=Lib.hid hv
  clear hr hv
  go_wp2_with fail
  refine (commitsAgree_impl _ _ _ t _ _ cx L w2 HR.out HV.out).mono ?_;rintro e w3 ⟨rfl,hb3⟩
  clear z0 z1 z2 HR HV
  rw [HM.out]
  have HB3:=Lib.hid hb3
  clear hb3
  obtain ⟨⟨z0,z1,z2,-⟩,hr,hv,-⟩:=HK.out w3 HB3.out
  have HR:=Lib.hid hr
  have HV:=Lib.hid hv
  clear hr hv
  go_wp2_with fail
  refine (commitsAgree_spec _ _ _ t _ _ cx L w3 HR.out HV.out).mono ?_;rintro e w4 ⟨rfl,hb4⟩
  clear z0 z1 z2 HR HV
  rw [HM.out]
  have HB4:=Lib.hid (HB3.out.trans (hb4.mono HB3.out.size))
  clear hb4 HB3
  cases m with
  | false =>
   clear hmm
   go_wp2_with fail
   refine (alive_any _).mono ?_;rintro e wz ⟨rfl,hbz⟩
   have HBF:=Lib.hid ((HK.out w4 HB4.out).2.2.2.trans (hbz.mono (HK.out w4 HB4.out).2.2.2.size))
   clear hbz
   go_wp2
   go_ret
   exact ⟨rfl,HBF.out⟩
  | true =>
   have hag:0 < (cerM t L).length∧agrH t (hdsM t (cerM t L))=true:=by
    have:=HM.out
    unfold agM at this
    by_cases e:(cerM t L).length=0
    · rw [if_pos e] at this;cases this
    · rw [if_neg e] at this;exact ⟨by omega,this⟩
   obtain ⟨ht,hl⟩:treB t=true∧(cerM t L).length=t.blocks.length:=by
    rcases cerM_cases t L with ⟨hf,-⟩ | ⟨h1,-,-,h2,-,-⟩
    · have:=hag.1;rw [hf] at this;simp at this
    · exact ⟨h1,h2⟩
   obtain ⟨H,hH⟩:∃ H,H=hdsM t (cerM t L):=⟨_,rfl⟩
   have hHm:∀ x∈H,∃ k:Nat,x=k∧k < t.blocks.length:=fun x hx=>by rw [hH] at hx;obtain ⟨k,e,hk,-⟩:=hdsM_mem hx;exact ⟨k,e,by rw [← hl];exact hk⟩
   have hall:=(agree_iff ht hHm).2 ((agrH_iff t H).1 (by rw [hH];exact hag.2))
   obtain ⟨n,hn⟩:∃ n,ctM t L=n:=⟨_,rfl⟩
   have hnH:n=ctoM t H:=by rw [← hn,hH];unfold ctM;rw [if_neg (by omega)]
   have hn0:0≤n:=by
    rw [hnH]
    rcases toK_mem (V:=vwAt t) (H:=H) H.length (Nat.le_refl _) with e | e
    · have:ctoM t H=0:=e;omega
    · obtain ⟨k,hk,-⟩:=hHm _ e
      have:ctoM t H=(k:Int):=hk
      omega
   rw [← hnH] at hall
   have HALL:=Lib.hid hall
   have HN:=Lib.hid hn
   have HHE:=Lib.hid hH
   have e0:decide ((0:Int)≤n)=true:=decide_eq_true hn0
   clear hag ht hl hH hHm hall hn hnH hn0 hmm
   obtain ⟨⟨z0,z1,z2,-⟩,hr,hv,-⟩:=HK.out w4 HB4.out
   have HR:=Lib.hid hr
   have HV:=Lib.hid hv
   clear hr hv
   go_wp2_with fail
   refine (committedTo_impl _ _ _ t _ _ cx L w4 HR.out HV.out).mono ?_;rintro e w5 ⟨rfl,hb5⟩
   clear z0 z1 z2 HR HV
   rw [HN.out]
   have HB5:=Lib.hid (HB4.out.trans (hb5.mono HB4.out.size))
   clear hb5 HB4
   obtain ⟨⟨z0,z1,z2,-⟩,hr,hv,-⟩:=HK.out w5 HB5.out
   have HR:=Lib.hid hr
   have HV:=Lib.hid hv
   clear hr hv
   go_wp2_with fail
   refine (commitHeads_impl _ _ _ t _ _ cx L w5 HR.out HV.out).mono ?_;rintro e w6 ⟨vh,rfl,hoh,hwf,hlen,hb6⟩
   clear z0 z1 z2 HR HV
   rw [← HHE.out] at hoh hwf hlen
   obtain ⟨ah,ch,rfl,rh⟩:=rowI_of_owns hoh (by unfold maxLen;omega) hwf
   have HRH:=Lib.hid rh
   have HB6:=Lib.hid (HB5.out.trans (hb6.mono HB5.out.size))
   obtain ⟨nh,hnh⟩:∃ nh,nh=H.length:=⟨_,rfl⟩
   have hn14:nh≤14:=by omega
   have HNH:=Lib.hid hnh
   rw [← hnh] at HRH ⊢
   clear hoh hwf hlen rh hb6 hnh HB5
   go_wp2_with fail
   go_loopw [8] (fun i wr=>∃ k:Nat,k≤nh∧i = .int .i64 (k:Int)∧Below w6.heap.size w6 wr) (fun i _=>nh - (intOf i).toNat)
   case atStart=>exact ⟨0,Nat.zero_le _,rfl,Below.refl _ _⟩
   case round =>
    obtain ⟨k,hk,rfl,hb⟩:=hrel
    have hb26:=HB6.out.trans (hb.mono HB6.out.size)
    by_cases hlt:k < nh
    · obtain ⟨⟨z0,z1,z2,-⟩,hr,-,-⟩:=HK.out wr hb26
      obtain ⟨bh,oh,rfl,hch⟩:=(HRH.out.below hb).2.2.1 (by omega)
      obtain ⟨x,hx⟩:∃ x,x=H.getD k 0:=⟨_,rfl⟩
      have hcx:=hch k hlt
      have hal:=HALL.out k (by rw [← HNH.out];exact hlt)
      rw [← hx] at hcx hal
      have HAL:=Lib.hid hal
      have HR:=Lib.hid hr
      have HB:=Lib.hid hb
      have i5:(0:Int)≤(k:Int):=by omega
      have i6:(k:Int) < (nh:Int):=by omega
      have hbl:=World.block_lt_of_cell? wr ⟨bh,oh+k,none⟩ hcx
      have HKP:=Lib.hid (fun (W':World) (hb':Below wr.heap.size wr W')=>(⟨(HK.out W' (hb26.trans (hb'.mono hb26.size))).1.c0,(HK.out W' (hb26.trans (hb'.mono hb26.size))).1.c1,(HK.out W' (hb26.trans (hb'.mono hb26.size))).1.c2,(hb'.cell (p:=⟨bh,oh+k,none⟩) hbl).trans hcx⟩:W'.cell? ⟨Z,0,none⟩=some (.slice b1 m1 d1)∧W'.cell? ⟨Z,1,none⟩=some (.slice b2 m2 d2)∧W'.cell? ⟨Z,2,none⟩=some (.slice b3 m3 d3)∧W'.cell? ⟨bh,oh+k,none⟩=some (.int .i64 x)))
      clear hch hx hal hr hb hb26 hbl
      go_upto_region 14 with (fail)
      go_region_held3 (fun w'=>w'.cell? ⟨Z,0,none⟩=some (.slice b1 m1 d1)∧w'.cell? ⟨Z,1,none⟩=some (.slice b2 m2 d2)∧w'.cell? ⟨Z,2,none⟩=some (.slice b3 m3 d3)∧w'.cell? ⟨bh,oh+k,none⟩=some (.int .i64 x)) (first | exact ⟨z0,z1,z2,hcx⟩ | exact hkp | go_keep)
       (first | (go_at_call 11;refine (isBefore_impl _ _ _ t x n wr.drew (HR.out.below (Below.refl _ _).drew)).mono ?_;rintro e1 wk ⟨rfl,hbk'⟩;rw [HAL.out];have hbk:=(Below.refl wr.heap.size wr).drew.trans hbk';have hkp:=HKP.out _ hbk))
      have HBK:=Lib.hid (HB.out.trans (hbk.mono HB.out.size))
      clear hkp hbk hbk' z0 z1 z2 hcx HKP
      go_wp2_with fail
      go_roundw
      case rel=>exact ⟨k+1,by omega,by go_num,HBK.out⟩
      case measure=>simp [intOf];omega
    · obtain rfl:k=nh:=by omega
      have HBW:=Lib.hid (HK.out wr hb26).2.2.2
      clear hb hb26
      go_wp2_with fail
      go_ret
      exact ⟨rfl,HBW.out⟩
end Go.Proofs.YtpnjgmgmakmgeabGreat

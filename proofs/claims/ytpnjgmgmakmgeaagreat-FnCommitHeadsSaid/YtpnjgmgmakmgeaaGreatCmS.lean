/- Texts of ours that stand together: HasK, SpecCm, SpecCm2, SpecCm3, SpecCm4, SpecCm5 -/
import Derived.Test.YtpnjgmgmakmgeaaGreatCore
import Derived.Test.YtpnjgmgmakmgeaaGreatConv
import Derived.Test.YtpnjgmgmakmgeaaGreatCmI
import Derived.Test.YtpnjgmgmakmgeaaGreatTrFP
import Derived.Test.YtpnjgmgmakmgeaaGreatCtG
import Derived.Deep.RegionHeld3
import Derived.BigQuiet
import Derived.Test.YtpnjgmgmakmgeaaGreatRegJ
import Derived.Test.YtpnjgmgmakmgeaaGreatRegO
/- The contract of the laws' own hasKey. -/
namespace Go.Proofs.YtpnjgmgmakmgeaaGreat
open Go.RowKit
set_option linter.unusedVariables false
set_option maxHeartbeats 1000000 in
theorem hasKeyC_any (a:Option Addr) (n cap:Nat) (l:List Int) (x:Int) (w:World) (h:RowI w a n l) :
  Calls Tryz.prog 65 #[.slice a n cap,.int .i64 x] w fun e w'=>e = .returned (.bool (decide (x∈l)))∧w=w':=by
 have HR:=Lib.hid h
 obtain ⟨hl,hm,hc,-⟩:=h
 unfold maxLen at hm
 have HL:=Lib.hid hl;clear hl
 by_cases h0:0 < n
 · obtain ⟨b,off,rfl,hcc⟩:=hc h0;clear hc;have hc:=hcc;clear hcc
   go_enter Tryz.func65,Tryz.ntmps65
   go_wp2
   go_loop [5] (fun i=>∃ k:Nat,k≤n∧i = .int .i64 k∧∀ j,j < k→l.getD j 0≠x) (fun i=>n - (intOf i).toNat)
   case atStart=>exact ⟨0,Nat.zero_le _,rfl,fun j hj=>absurd hj (Nat.not_lt_zero j)⟩
   case round =>
    obtain ⟨k,hk,rfl,hno⟩:=hrel
    have HNO:=Lib.hid hno
    clear hno
    by_cases hlt:k < n
    · have hck:=hc k hlt
      have HI:Hid (l.getD k 0∈l):=Lib.hid (getD_mem l k (by rw [HL.out];exact hlt))
      have HX:Hid (l.getD k 0=l.getD k 0):=Lib.hid rfl
      obtain ⟨y,hy⟩:∃ y,y=l.getD k 0:=⟨_,rfl⟩
      have HY:=Lib.hid hy
      rw [← hy] at hck HI
      clear hy hc
      by_cases hyx:y=x
      · have hb:(y == x)=true:=by simpa using hyx
        have HM:Hid (decide (x∈l)=true):=Lib.hid (by rw [← hyx];simpa using HI.out)
        clear hyx
        go_wp2
        go_ret
        exact ⟨by rw [HM.out];rfl,rfl⟩
      · have hb:(y == x)=false:=by simpa using hyx
        have HN2:Hid (∀ j,j < k+1→l.getD j 0≠x):=Lib.hid (fun j hj=>by
         rcases (by omega:j < k∨j=k) with h | rfl
         · exact HNO.out j h
         · rw [← HY.out];exact hyx)
        clear hyx
        go_wp2
        go_round
        case rel=>exact ⟨k+1,by omega,by go_num,HN2.out⟩
        case measure=>simp [intOf];omega
    · have HM:Hid (decide (x∈l)=false):=Lib.hid (by
       rw [decide_eq_false_iff_not];intro hx
       obtain ⟨j,hj,he⟩:=List.getElem_of_mem hx
       exact HNO.out j (by rw [HL.out] at hj;omega) (by rw [List.getD_eq_getElem?_getD,List.getElem?_eq_getElem hj];exact he))
      clear hc
      go_wp2
      go_ret
      exact ⟨by rw [HM.out];rfl,rfl⟩
 · obtain rfl:n=0:=by omega
   obtain rfl:l=[]:=List.eq_nil_of_length_eq_zero HL.out
   clear hc
   go_enter Tryz.func65,Tryz.ntmps65
   go_wp2
   go_loop [5] (fun i=>i = .int .i64 0) (fun _=>0)
   case atStart=>rfl
   case round =>
    subst hrel
    go_wp2
    go_ret
    exact ⟨rfl,rfl⟩
theorem hasKeyC_yes (a:Option Addr) (n cap:Nat) (l:List Int) (x:Int) (w:World) (h:RowI w a n l) (hx:x∈l) :
  Calls Tryz.prog 65 #[.slice a n cap,.int .i64 x] w fun e w'=>e = .returned (.bool true)∧w'=w :=
 (hasKeyC_any a n cap l x w h).mono fun e w' ⟨h1,h2⟩=>⟨by rw [h1,decide_eq_true hx],h2.symm⟩
set_option linter.unusedSimpArgs false
set_option maxRecDepth 100000 in
set_option maxHeartbeats 8000000 in
theorem certifiedBlocks_spec (v1 v2 v3:Value) (t:Tre) (a:Option Addr) (n c:Nat) (cs:List Ver) (w:World) (h:TreRd w v1 v2 v3 t) (hc:RowV w a n cs) :
  Calls Tryz.prog 44 #[.agg #[v1,v2,v3],.slice a n c] w (NewO w 4 (cerM t cs)):=by
 have HCL:=Lib.hid hc.1
 have hmc:=hc.2.1
 unfold maxLen at hmc
 have hrd:=h
 obtain ⟨⟨a1,n1,c1,rfl,-⟩,⟨a2,n2,c2,rfl,r2,-,-⟩,a3,n3,c3,rfl,r3,-,-⟩:=h
 obtain rfl:t.blocks.length=n2:=r2.1
 have hm2:=r2.2.1
 unfold maxLen at hm2
 have hb0:=(Below.refl w.heap.size w).alloc (Nat.le_refl _) (.cells #[.slice a1 n1 c1,.slice a2 t.blocks.length c2,.slice a3 n3 c3] 27)
 have hg0:=trAt_new w 27 (.slice a1 n1 c1) (.slice a2 t.blocks.length c2) (.slice a3 n3 c3)
 have hr0:=hrd.below hb0
 obtain ⟨W0,hW0⟩:∃ W0,W0=w.alloc (.cells #[.slice a1 n1 c1,.slice a2 t.blocks.length c2,.slice a3 n3 c3] 27):=⟨_,rfl⟩
 have hc0:=hc.below (hW0 ▸ hb0)
 rw [← hW0] at hb0 hg0 hr0
 have hw0s:W0.heap.size=w.heap.size+1:=by rw [hW0];simp
 have ho0:=(own_lit (w:=W0) (B:=W0.heap.size) 4 1 #[] 0 (Nat.le_refl _) (by unfold maxLen;omega) rfl).1
 have hb1:=(Below.refl W0.heap.size W0).alloc (Nat.le_refl _) (.cells #[] 4)
 obtain ⟨W1,hW1⟩:∃ W1,W1=W0.alloc (.cells #[] 4):=⟨_,rfl⟩
 have HW1:=Lib.hid hW1
 rw [← hW1] at ho0 hb1
 have HW0:=Lib.hid hW0
 clear hW0 hW1 hrd r2 r3
 have HK:=Lib.hid (fun (W:World) (hb:Below W0.heap.size W0 W)=>(⟨hg0.below hb,hr0.below hb,hc0.below hb,hb0.trans (hb.mono hb0.size)⟩:TrAt W w.heap.size (.slice a1 n1 c1) (.slice a2 t.blocks.length c2) (.slice a3 n3 c3)∧TreRd W (.slice a1 n1 c1) (.slice a2 t.blocks.length c2) (.slice a3 n3 c3) t∧RowV W a n cs∧Below w.heap.size w W))
 have HO:=Lib.hid ho0
 have HB1:=Lib.hid hb1
 clear ho0 hb1
 have HS0:=Lib.hid hb0.size
 clear hb0 hg0 hr0 hc0
 go_enter Tryz.func44,Tryz.ntmps44
 go_upto_region 2 with (fail)
 rw [← HW0.out,← hw0s,← HW1.out]
 clear HW0 HW1 hw0s
 obtain ⟨⟨x0,x1,x2,-⟩,hrd,-,-⟩:=HK.out W1 HB1.out
 have HRD:=Lib.hid hrd
 clear hrd
 go_wp2_with fail
 refine (blockTreeValid_spec _ _ _ t _ HRD.out).mono ?_;rintro e w2 ⟨rfl,hb2⟩
 have HB2:=Lib.hid (HB1.out.trans (hb2.mono HB1.out.size))
 have HO2:=Lib.hid (owns_mono (owns_below HO.out hb2) HS0.out)
 clear x0 x1 x2 hb2 HO HRD
 obtain ⟨⟨x0,x1,x2,-⟩,-,-,hbf⟩:=HK.out w2 HB2.out
 have HBF:=Lib.hid hbf
 clear hbf
 cases ht:treB t with
 | false =>
  have HF:=Lib.hid (cerM_no (cs:=cs) (.inl ht))
  clear ht
  go_wp2_with fail
  go_ret
  rw [HF.out];exact ⟨_,rfl,HO2.out,by simp,HBF.out⟩
 | true =>
  by_cases hn:n≤30
  case neg =>
   have HF:=Lib.hid (cerM_no (t:=t) (cs:=cs) (.inr (by rw [HCL.out];omega)))
   have hd:decide ((30:Int) < (n:Int))=true:=decide_eq_true (by omega)
   clear ht
   go_wp2_with fail
   go_ret
   rw [HF.out];exact ⟨_,rfl,HO2.out,by simp,HBF.out⟩
  case pos =>
   have hd:decide ((30:Int) < (n:Int))=false:=decide_eq_false (by omega)
   have htk:=(treB_iff t).1 ht
   have h1:=htk.one
   have hm14:=htk.most
   have HCE:=Lib.hid (cerM_yes ht (cs:=cs) (by rw [HCL.out];exact hn))
   have HBV:=Lib.hid (fun c=>cbM_yes (c:=c) ht)
   obtain ⟨N,hN⟩:∃ N,N=t.blocks.length:=⟨_,rfl⟩
   have HN:=Lib.hid hN
   rw [← hN] at HK h1 hm14 x1
   clear ht htk hN HO2
   obtain ⟨G,hG⟩:∃ G,G=w2.heap.size:=⟨_,rfl⟩
   have HG:=Lib.hid hG
   have hGW:w.heap.size≤G:=by rw [hG];exact HBF.out.size
   have hG0:W0.heap.size≤G:=by rw [hG];exact HB2.out.size
   clear hG
   obtain ⟨i0,hi,hz0,hz1,hz2⟩:=info_parts infoBoolC
   have i3:(0:Int) < (N:Int):=by omega
   go_wp2_with (first | (at_make;refine wpList_make_full _ rfl (.tmp 20) (.tmp 20) 68 rfl w2.heap.size 4 i0 (.bool false) 1 Tryz.underlying68 hi hz0 hz1 .i64 .i64 N N N rfl rfl rfl rfl (by rw [hz2];omega) (by unfold maxLen;omega) (Nat.le_refl _) ?_;intro w3 hown hgrow;clear hi hz0 hz1 hz2;rw [made_false] at hown;have hce:=hown.cellAt 0 (by omega);rw [getD_mapO _ (by simp;omega)] at hce;have hfz:=hown.frozenAt 0))
   have hst:=(hown.stored 0 (.bool true)).1
   rw [← List.map_set] at hst
   have hb3:Below W0.heap.size W0 w3:=HB2.out.grown hgrow (HB2.out.size) (fun k hk=>by simp at hk)
   have hbs:Below W0.heap.size W0 (w3.setCell ⟨w2.heap.size,0,none⟩ (.bool true)):=hb3.setCell (HB2.out.size) _
   rw [← HG.out] at hst hbs ⊢
   have HST:=Lib.hid hst
   have HBS:=Lib.hid hbs
   clear hown hgrow hce hfz hst hb3 hbs x0 x1 x2 HG HBF HB2
   go_loopw [6] (fun i wr=>∃ k:Nat,k≤n∧i = .int .i64 (k:Int)∧wr.ownsRow G 4 1 (.slice (some ⟨G,0,none⟩) N N) N ((cerK t.blocks cs k).map Value.bool)∧Below W0.heap.size W0 wr) (fun i _=>n - (intOf i).toNat)
   case atStart=>exact ⟨0,Nat.zero_le _,rfl,by have:=HST.out;rw [cerK,← HN.out];exact this,HBS.out⟩
   case round =>
    clear HST HBS
    obtain ⟨k,hk,rfl,hown,hb⟩:=hrel
    obtain ⟨⟨x0,x1,x2,-⟩,hrd,hrc,hbw⟩:=HK.out wr hb
    by_cases hlt:k < n
    · have hwf:=hrc.bd k hlt
      obtain ⟨b,off,rfl,hcc⟩:=hrc.2.2.1 (by omega)
      obtain ⟨g0,g1,g2⟩:=hcc k hlt
      obtain ⟨x,hx⟩:∃ x,x=cs.getD k noV:=⟨_,rfl⟩
      rw [← hx] at g0 g1 g2 hwf
      obtain ⟨p,q,r⟩:=x
      simp only at g0 g1 g2
      have HX:=Lib.hid hx
      have HWF:=Lib.hid hwf.1
      have HOW:=Lib.hid hown
      have HB:=Lib.hid hb
      have HRD:=Lib.hid hrd
      have hcr:crtV (cs.getD k noV)=⟨p,q,r⟩:=by rw [← hx];rfl
      obtain ⟨v,hv⟩:∃ v,cbM t ⟨p,q,r⟩=v:=⟨_,rfl⟩
      have HV:=Lib.hid hv
      have hbv:=HBV.out ⟨p,q,r⟩
      rw [hv] at hbv
      have HBVK:=Lib.hid hbv
      clear hbv
      have j1:(0:Int)≤(k:Int):=by omega
      have j2:(k:Int) < (n:Int):=by omega
      have hbl:=World.block_lt_of_cell? wr ⟨b,off+k*3,none⟩ g0
      have hkb:=(HK.out wr hb).1
      have HKP:=Lib.hid (fun (W':World) (hb':Below wr.heap.size wr W')=>(⟨⟨(hkb.below hb').c0,(hkb.below hb').c1,(hkb.below hb').c2⟩,below_cell hb' hbl g0,below_cell hb' hbl g1,below_cell hb' hbl g2⟩:(W'.cell? ⟨w.heap.size,0,none⟩=some (.slice a1 n1 c1)∧W'.cell? ⟨w.heap.size,1,none⟩=some (.slice a2 N c2)∧W'.cell? ⟨w.heap.size,2,none⟩=some (.slice a3 n3 c3))∧W'.cell? ⟨b,off+k*3,none⟩=some (.int .i64 p)∧W'.cell? ⟨b,off+k*3+1,none⟩=some (.int .i64 q)∧W'.cell? ⟨b,off+k*3+2,none⟩=some (.int .i64 r)))
      clear hrd hrc hbw hwf hcc hx hown hb hv hbl hkb
      go_upto_region 9 with (fail)
      go_region_held3 (fun w'=>(w'.cell? ⟨w.heap.size,0,none⟩=some (.slice a1 n1 c1)∧w'.cell? ⟨w.heap.size,1,none⟩=some (.slice a2 N c2)∧w'.cell? ⟨w.heap.size,2,none⟩=some (.slice a3 n3 c3))∧w'.cell? ⟨b,off+k*3,none⟩=some (.int .i64 p)∧w'.cell? ⟨b,off+k*3+1,none⟩=some (.int .i64 q)∧w'.cell? ⟨b,off+k*3+2,none⟩=some (.int .i64 r)) (first | exact ⟨⟨x0,x1,x2⟩,g0,g1,g2⟩ | exact hkp | go_keep)
       (first | (go_at_call 17;refine (certBlock_spec _ _ _ t p q r wr.drew (HRD.out.below (Below.refl _ _).drew) HWF.out).mono ?_;rintro e1 w4 ⟨rfl,hb4'⟩;rw [HV.out];have hb4:=(Below.refl wr.heap.size wr).drew.trans hb4';have hkp:=HKP.out _ hb4))
      have HB4:=Lib.hid (HB.out.trans (hb4.mono HB.out.size))
      have HO4:=Lib.hid (owns_below HOW.out hb4)
      clear hkp hb4 hb4' x0 x1 x2 g0 g1 g2 HKP HB HOW HRD HV
      rcases cbN_bd t.blocks ⟨p,q,r⟩ with hcb | ⟨j,hj,hcb⟩
      · have HE:=Lib.hid (cerK_no (cs:=cs) (k:=k) (hcr ▸ hcb))
        have hbv:=HBVK.out
        rw [hcb] at hbv
        subst hbv
        clear hcb hcr
        go_wp2_with fail
        go_roundw
        case rel=>exact ⟨k+1,by omega,by go_num,by rw [HE.out];exact HO4.out,HB4.out⟩
        case measure=>simp [intOf];omega
      · have HE:=Lib.hid (cerK_yes (cs:=cs) (k:=k) (hcr ▸ hcb))
        have hbv:=HBVK.out
        rw [hcb] at hbv
        subst hbv
        have hjN:j < N:=by rw [HN.out];exact hj
        have i1:(0:Int)≤(j:Int):=by omega
        have i2:(j:Int) < (N:Int):=by omega
        have hst:=(HO4.out.stored j (.bool true)).1
        rw [← List.map_set,← HE.out] at hst
        have hce:=HO4.out.cellAt j (by omega)
        rw [getD_mapO _ (by rw [cerK_len];exact hj)] at hce
        have hfz:=HO4.out.frozenAt j
        have HST:=Lib.hid hst
        have HBS:=Lib.hid (HB4.out.setCell (p:=⟨G,j,none⟩) hG0 (.bool true))
        clear hcb hcr hst HO4 HB4 hj hjN
        go_wp2_with fail
        go_roundw
        case rel=>exact ⟨k+1,by omega,by go_num,HST.out,HBS.out⟩
        case measure=>simp [intOf];omega
    · obtain rfl:k=n:=by omega
      have HO:Hid (wr.ownsRow w.heap.size 4 1 (.slice (some ⟨G,0,none⟩) N N) (cerM t cs).length ((cerM t cs).map Value.bool)):=Lib.hid (by
       rw [HCE.out,cerK_len,← HN.out,HCL.out];exact owns_mono hown hGW)
      have HL:=Lib.hid (cerM_len14 t cs)
      have HBW:=Lib.hid hbw
      clear hown hrd hrc hbw x0 x1 x2
      go_wp2_with fail
      go_ret
      exact ⟨_,rfl,HO.out,HL.out,HBW.out⟩
def comR (t:Tre) (C:List Bool) (N d:Nat):List Bool:=(List.range N).map fun b:Nat=>comK C t.bef (vwAt t) d b
theorem comR_len (t:Tre) (C:List Bool) (N d:Nat):(comR t C N d).length=N:=by simp [comR]
theorem comR_get (t:Tre) (C:List Bool) (N d:Nat) {q:Nat} (h:q < N):(comR t C N d)[q]? = some (comK C t.bef (vwAt t) d q):=by
 unfold comR;rw [List.getElem?_map,List.getElem?_range h];rfl
theorem comR_getD (t:Tre) (C:List Bool) (N d:Nat) {q:Nat} (h:q < N):(comR t C N d).getD q false=comK C t.bef (vwAt t) d q:=by
 rw [List.getD_eq_getElem?_getD,comR_get t C N d h];rfl
theorem comR_zero (t:Tre) (C:List Bool) (N:Nat):comR t C N 0=List.replicate N false:=by
 apply List.ext_getElem?
 intro q
 by_cases h:q < N
 · rw [comR_get t C N 0 h,comK_zero,List.getElem?_replicate,if_pos h]
 · rw [List.getElem?_eq_none (by rw [comR_len];omega),List.getElem?_eq_none (by simp;omega)]
theorem comR_same {t:Tre} {C:List Bool} {N d:Nat} (h:∀ q,comD C t.bef (vwAt t) d q=false):comR t C N (d+1)=comR t C N d:=by
 unfold comR
 congr 1
 funext q
 rw [comK_next,h,Bool.or_false]
theorem comD_none {C:List Bool} {F:List Int} {V:Nat→Int} {d:Nat} (h:F.getD d 0 < 0) (q:Nat):comD C F V d q=false:=by
 unfold comD;rw [decide_eq_false (by omega)];rfl
theorem comD_none2 {C:List Bool} {F:List Int} {V:Nat→Int} {d c:Nat} (hc:F.getD d 0=(c:Int)) (h:F.getD c 0 < 0) (q:Nat):comD C F V d q=false:=by
 unfold comD
 rw [hc,Int.toNat_natCast,decide_eq_false (show ¬ F.getD c 0=(q:Int) by omega)];simp
theorem comD_at {C:List Bool} {F:List Int} {V:Nat→Int} {d c b:Nat} (hc:F.getD d 0=(c:Int)) (hb:F.getD c 0=(b:Int)) (q:Nat):comD C F V d q=(decide (b=q) && (C.getD b false && C.getD c false && C.getD d false && ((V b+1 == V c) && (V c+1 == V d)))):=by
 unfold comD
 rw [hc,Int.toNat_natCast,hb,decide_eq_true (show (0:Int)≤(c:Int) by omega)]
 by_cases e:b=q
 · subst e
   rw [decide_eq_true (rfl:(b:Int)=(b:Int)),decide_eq_true (rfl:b=b)]
   rw [Bool.eq_iff_iff]
   simp only [Bool.and_eq_true,decide_eq_true_eq,beq_iff_eq,true_and]
   constructor
   · rintro ⟨⟨⟨⟨h1,h2⟩,h3⟩,h4⟩,h5⟩;exact ⟨⟨⟨h3,h4⟩,h5⟩,h1,h2⟩
   · rintro ⟨⟨⟨h3,h4⟩,h5⟩,h1,h2⟩;exact ⟨⟨⟨⟨h1,h2⟩,h3⟩,h4⟩,h5⟩
 · rw [decide_eq_false (show ¬ (b:Int)=(q:Int) by omega),decide_eq_false e];simp
theorem comR_next {t:Tre} {C:List Bool} {N d c b:Nat} (hc:t.bef.getD d 0=(c:Int)) (hb:t.bef.getD c 0=(b:Int)) (hbN:b < N):comR t C N (d+1)=if (C.getD b false && C.getD c false && C.getD d false && ((vwAt t b+1 == vwAt t c) && (vwAt t c+1 == vwAt t d)))=true then (comR t C N d).set b true else comR t C N d:=by
 split
 · rename_i h
   apply List.ext_getElem?
   intro q
   by_cases hq:q < N
   · rw [comR_get t C N (d+1) hq,comK_next,comD_at hc hb,h,List.getElem?_set,comR_len,comR_get t C N d hq]
     by_cases e:b=q
     · rw [if_pos e,if_pos (by omega),decide_eq_true e];simp
     · rw [if_neg e,decide_eq_false e];simp
   · rw [List.getElem?_eq_none (by rw [comR_len];omega),List.getElem?_eq_none (by rw [List.length_set,comR_len];omega)]
 · rename_i h
   refine comR_same (fun q=>?_)
   rw [comD_at hc hb,Bool.eq_false_iff.2 h,Bool.and_false]
theorem trRd_cells {w:World} {v1:Value} {a2 a3:Option Addr} {n2 c2 n3 c3:Nat} {t:Tre} (h:TreRd w v1 (.slice a2 n2 c2) (.slice a3 n3 c3) t) (ht:TreOk t):∃ b off b3 off3,a2=some ⟨b,off,none⟩∧a3=some ⟨b3,off3,none⟩∧n2=t.blocks.length∧n3=t.blocks.length∧∀ W,Below w.heap.size w W→(∀ k,k < t.blocks.length→W.cell? ⟨b,off+k*6+2,none⟩=some (.int .i64 (vwAt t k)))∧∀ k,k < t.blocks.length→W.cell? ⟨b3,off3+k,none⟩=some (.int .i64 (t.bef.getD k 0)):=by
 obtain ⟨-,⟨_,_,_,e2,r2,-,-⟩,⟨_,_,_,e3,r3,-,-⟩⟩:=h
 simp only [Value.slice.injEq] at e2 e3
 obtain ⟨rfl,rfl,rfl⟩:=e2
 obtain ⟨rfl,rfl,rfl⟩:=e3
 have hl2:t.blocks.length=n2:=r2.1
 have hl3:t.bef.length=n3:=r3.1
 have h1:=ht.one
 have hll:=ht.len
 obtain ⟨b,off,rfl,hbk⟩:=r2.2.2.1 (by omega)
 obtain ⟨b3,off3,rfl,hc3⟩:=r3.2.2.1 (by omega)
 exact ⟨b,off,b3,off3,rfl,rfl,by omega,by omega,fun W hb=>⟨fun k hk=>((hbk k (by omega)).below hb).c2,fun k hk=>by
  have hlt:=World.block_lt_of_cell? w ⟨b3,off3+k,none⟩ (hc3 k (by omega))
  exact below_cell hb hlt (hc3 k (by omega))⟩⟩
set_option maxRecDepth 100000 in
set_option maxHeartbeats 8000000 in
theorem l16Commits_spec (v1 v2 v3:Value) (t:Tre) (ac:Option Addr) (nc cc:Nat) (C:List Bool) (w:World) (h:TreRd w v1 v2 v3 t) (ht:treB t=true) (hc:RowO w ac nc C) (hnc:nc=t.blocks.length) :
  Calls Tryz.prog 118 #[.agg #[v1,v2,v3],.slice ac nc cc] w (NewO w 4 (comR t C t.blocks.length t.blocks.length)):=by
 have htk:=(treB_iff t).1 ht
 have hrd:=h
 obtain ⟨⟨a1,n1,c1,rfl,-⟩,⟨a2,n2,c2,rfl,-⟩,a3,n3,c3,rfl,-⟩:=h
 obtain ⟨b0,off,b3,off3,rfl,rfl,rfl,rfl,hcells⟩:=trRd_cells hrd htk
 have h1:=htk.one
 have hm14:=htk.most
 have hb0:=(Below.refl w.heap.size w).alloc (Nat.le_refl _) (.cells #[.slice a1 n1 c1,.slice (some ⟨b0,off,none⟩) t.blocks.length c2,.slice (some ⟨b3,off3,none⟩) t.blocks.length c3] 27)
 have hg0:=trAt_new w 27 (.slice a1 n1 c1) (.slice (some ⟨b0,off,none⟩) t.blocks.length c2) (.slice (some ⟨b3,off3,none⟩) t.blocks.length c3)
 obtain ⟨bc,oc,rfl,-⟩:=hc.2.2 (by omega)
 obtain ⟨W0,hW0⟩:∃ W0,W0=w.alloc (.cells #[.slice a1 n1 c1,.slice (some ⟨b0,off,none⟩) t.blocks.length c2,.slice (some ⟨b3,off3,none⟩) t.blocks.length c3] 27):=⟨_,rfl⟩
 have HW0:=Lib.hid hW0
 rw [← hW0] at hb0 hg0
 clear hW0
 obtain ⟨N,hN⟩:∃ N,N=t.blocks.length:=⟨_,rfl⟩
 rw [← hN] at hcells hnc h1 hm14 HW0
 subst hnc
 have HK:=Lib.hid (fun (W:World) (hb:Below W0.heap.size W0 W)=>(⟨by have:=hg0.below hb;rw [← hN] at this;exact this,hcells W (hb0.trans (hb.mono hb0.size)),hc.below (hb0.trans (hb.mono hb0.size)),hb0.trans (hb.mono hb0.size)⟩:TrAt W w.heap.size (.slice a1 n1 c1) (.slice (some ⟨b0,off,none⟩) nc c2) (.slice (some ⟨b3,off3,none⟩) nc c3)∧((∀ k,k < nc→W.cell? ⟨b0,off+k*6+2,none⟩=some (.int .i64 (vwAt t k)))∧∀ k,k < nc→W.cell? ⟨b3,off3+k,none⟩=some (.int .i64 (t.bef.getD k 0)))∧RowO W (some ⟨bc,oc,none⟩) nc C∧Below w.heap.size w W))
 have HBB:=Lib.hid (fun c (hc:c < nc)=>htk.befBd (k:=c) (by rw [← hN];exact hc))
 have HVB:=Lib.hid (fun c (hc:c < nc)=>view_bd htk (k:=c) (by rw [← hN];exact hc))
 have HS0:=Lib.hid hb0.size
 clear hb0 hg0 hc htk hrd hcells ht
 rw [← hN]
 clear hN
 obtain ⟨i0,hi,hz0,hz1,hz2⟩:=info_parts infoBoolC
 go_enter Tryz.func118,Tryz.ntmps118
 go_upto_region 1 with (fail)
 rw [← HW0.out]
 clear HW0
 obtain ⟨⟨x0,x1,x2,-⟩,-,-,-⟩:=HK.out W0 (Below.refl _ _)
 go_wp2_with (first | (at_make;refine wpList_make_full _ rfl (.tmp 12) (.tmp 12) 68 rfl W0.heap.size 4 i0 (.bool false) 1 Tryz.underlying68 hi hz0 hz1 .i64 .i64 nc nc nc rfl rfl rfl rfl (by rw [hz2];omega) (by unfold maxLen;omega) (Nat.le_refl _) ?_;intro w3 hown hgrow;clear hi hz0 hz1 hz2;rw [made_false,← comR_zero t C nc] at hown))
 have hb3:Below W0.heap.size W0 w3:=(Below.refl _ _).grown hgrow (Nat.le_refl _) (fun k hk=>by simp at hk)
 obtain ⟨G,hG⟩:∃ G,G=W0.heap.size:=⟨_,rfl⟩
 rw [← hG] at hown ⊢
 have HG:=Lib.hid hG
 have HST:=Lib.hid hown
 have HBS:=Lib.hid hb3
 clear hown hgrow hb3 x0 x1 x2 hG
 go_loopw [6] (fun i wr=>∃ d:Nat,d≤nc∧i = .int .i64 (d:Int)∧wr.ownsRow G 4 1 (.slice (some ⟨G,0,none⟩) nc nc) nc ((comR t C nc d).map Value.bool)∧Below W0.heap.size W0 wr) (fun i _=>nc - (intOf i).toNat)
 case atStart=>exact ⟨0,Nat.zero_le _,rfl,HST.out,HBS.out⟩
 case round =>
  clear HST HBS
  obtain ⟨d,hd,rfl,hown,hb⟩:=hrel
  obtain ⟨⟨x0,x1,x2,-⟩,⟨hvw,hbf⟩,hrc,hbw⟩:=HK.out wr hb
  by_cases hlt:d < nc
  case neg =>
   obtain rfl:d=nc:=by omega
   have HO:Hid (wr.ownsRow w.heap.size 4 1 (.slice (some ⟨G,0,none⟩) d d) (comR t C d d).length ((comR t C d d).map Value.bool)):=Lib.hid (by
    rw [comR_len];exact owns_mono hown (by rw [HG.out];exact HS0.out))
   have HL:Hid ((comR t C d d).length≤14):=Lib.hid (by rw [comR_len];exact hm14)
   have HBW:=Lib.hid hbw
   clear hown hvw hbf hrc hbw
   go_wp2_with fail
   go_ret
   exact ⟨_,rfl,HO.out,HL.out,HBW.out⟩
  case pos =>
   have hfd:=hbf d hlt
   have hbd:=HBB.out d hlt
   have i1:(0:Int)≤(d:Int):=by omega
   have i2:(d:Int) < (nc:Int):=by omega
   have HOW:=Lib.hid hown
   have HB:=Lib.hid hb
   obtain ⟨f,hf⟩:∃ f,f=t.bef.getD d 0:=⟨_,rfl⟩
   rw [← hf] at hfd hbd
   clear hown hb hbw
   by_cases hf1:f = -1
   case pos =>
    subst hf1
    have HNX:Hid (comR t C nc (d+1)=comR t C nc d):=Lib.hid (comR_same (comD_none (by omega)))
    clear hf hbd hvw hbf hrc
    go_wp2_with fail
    go_roundw
    case rel=>exact ⟨d+1,by omega,by go_num,by rw [HNX.out];exact HOW.out,by first | exact HB.out | exact below_drewN' HB.out _⟩
    case measure=>simp [intOf];omega
   case neg =>
    obtain ⟨c,hcc⟩:=Int.eq_ofNat_of_zero_le (show 0≤f by omega)
    change f=(c:Int) at hcc
    subst hcc
    have hcN:c < nc:=by omega
    have hfc:=hbf c hcN
    have hbc:=HBB.out c hcN
    obtain ⟨g,hg⟩:∃ g,g=t.bef.getD c 0:=⟨_,rfl⟩
    rw [← hg] at hfc hbc
    have i3:(0:Int)≤(c:Int):=by omega
    have i4:(c:Int) < (nc:Int):=by omega
    have e0:decide ((c:Int) < 0)=false:=decide_eq_false (by omega)
    by_cases hg1:g = -1
    case pos =>
     subst hg1
     have HNX:Hid (comR t C nc (d+1)=comR t C nc d):=Lib.hid (comR_same (comD_none2 hf.symm (by omega)))
     clear hf hg hbd hbc hvw hbf hrc hf1
     go_wp2_with fail
     go_roundw
     case rel=>exact ⟨d+1,by omega,by go_num,by rw [HNX.out];exact HOW.out,by first | exact HB.out | exact below_drewN' HB.out _⟩
     case measure=>simp [intOf];omega
    case neg =>
     obtain ⟨b,hbb⟩:=Int.eq_ofNat_of_zero_le (show 0≤g by omega)
     change g=(b:Int) at hbb
     subst hbb
     have hbN:b < nc:=by omega
     have i5:(0:Int)≤(b:Int):=by omega
     have i6:(b:Int) < (nc:Int):=by omega
     have e00:decide ((b:Int) < 0)=false:=decide_eq_false (by omega)
     have hcx:=comR_next (C:=C) hf.symm hg.symm hbN
     have hvd:=hvw d hlt
     have hvc:=hvw c hcN
     have hvb:=hvw b hbN
     have hwc:=HVB.out c hcN
     have hwb:=HVB.out b hbN
     obtain ⟨_,_,e9,hcl⟩:=hrc.2.2 (by omega)
     simp only [Option.some.injEq,Addr.mk.injEq] at e9
     obtain ⟨rfl,rfl,-⟩:=e9
     have hkb:=hcl b hbN
     have hkc:=hcl c hcN
     have hkd:=hcl d hlt
     obtain ⟨xb,hxb⟩:∃ x,x=C.getD b false:=⟨_,rfl⟩
     obtain ⟨xc,hxc⟩:∃ x,x=C.getD c false:=⟨_,rfl⟩
     obtain ⟨xd,hxd⟩:∃ x,x=C.getD d false:=⟨_,rfl⟩
     obtain ⟨vb,hvb2⟩:∃ x,x=vwAt t b:=⟨_,rfl⟩
     obtain ⟨vc,hvc2⟩:∃ x,x=vwAt t c:=⟨_,rfl⟩
     obtain ⟨vd,hvd2⟩:∃ x,x=vwAt t d:=⟨_,rfl⟩
     rw [← hxb,← hxc,← hxd,← hvb2,← hvc2,← hvd2] at hcx
     rw [← hxb] at hkb
     rw [← hxc] at hkc
     rw [← hxd] at hkd
     rw [← hvb2] at hvb hwb
     rw [← hvc2] at hvc hwc
     rw [← hvd2] at hvd
     have hw1:IntKind.i64.wrap (vb+1)=vb+1:=IntWalk.i64_in _ (by omega)
     have hw2:IntKind.i64.wrap (vc+1)=vc+1:=IntWalk.i64_in _ (by omega)
     obtain ⟨y1,hy1⟩:∃ y,(vb+1 == vc)=y:=⟨_,rfl⟩
     obtain ⟨y2,hy2⟩:∃ y,(vc+1 == vd)=y:=⟨_,rfl⟩
     rw [hy1,hy2] at hcx
     have HCX:=Lib.hid hcx
     clear hvw hbf hrc hcl hcx hf hg hbd hbc hwc hwb hxb hxc hxd hvb2 hvc2 hvd2 hf1 hg1
     cases y1 with
     | false =>
      go_upto_region 8 with (fail)
      go_quiet (fail)
      clear hy1 hy2 hvb hvc hvd hw1 hw2
      cases xb with
      | false =>
       have HNX:Hid (comR t C nc (d+1)=comR t C nc d):=Lib.hid (by rw [HCX.out];exact if_neg (by simp))
       go_wp2_with fail
       go_roundw
       case rel=>exact ⟨d+1,by omega,by go_num,by rw [HNX.out];exact HOW.out,by first | exact HB.out | exact below_drewN' HB.out _⟩
       case measure=>simp [intOf];omega
      | true =>
      cases xc with
      | false =>
       have HNX:Hid (comR t C nc (d+1)=comR t C nc d):=Lib.hid (by rw [HCX.out];exact if_neg (by simp))
       go_wp2_with fail
       go_roundw
       case rel=>exact ⟨d+1,by omega,by go_num,by rw [HNX.out];exact HOW.out,by first | exact HB.out | exact below_drewN' HB.out _⟩
       case measure=>simp [intOf];omega
      | true =>
      cases xd with
      | false =>
       have HNX:Hid (comR t C nc (d+1)=comR t C nc d):=Lib.hid (by rw [HCX.out];exact if_neg (by simp))
       go_wp2_with fail
       go_roundw
       case rel=>exact ⟨d+1,by omega,by go_num,by rw [HNX.out];exact HOW.out,by first | exact HB.out | exact below_drewN' HB.out _⟩
       case measure=>simp [intOf];omega
      | true =>
       have HNX:Hid (comR t C nc (d+1)=comR t C nc d):=Lib.hid (by rw [HCX.out];exact if_neg (by simp))
       go_wp2_with fail
       go_roundw
       case rel=>exact ⟨d+1,by omega,by go_num,by rw [HNX.out];exact HOW.out,by first | exact HB.out | exact below_drewN' HB.out _⟩
       case measure=>simp [intOf];omega
     | true =>
     cases y2 with
     | false =>
      go_upto_region 8 with (fail)
      go_quiet (fail)
      clear hy1 hy2 hvb hvc hvd hw1 hw2
      cases xb with
      | false =>
       have HNX:Hid (comR t C nc (d+1)=comR t C nc d):=Lib.hid (by rw [HCX.out];exact if_neg (by simp))
       go_wp2_with fail
       go_roundw
       case rel=>exact ⟨d+1,by omega,by go_num,by rw [HNX.out];exact HOW.out,by first | exact HB.out | exact below_drewN' HB.out _⟩
       case measure=>simp [intOf];omega
      | true =>
      cases xc with
      | false =>
       have HNX:Hid (comR t C nc (d+1)=comR t C nc d):=Lib.hid (by rw [HCX.out];exact if_neg (by simp))
       go_wp2_with fail
       go_roundw
       case rel=>exact ⟨d+1,by omega,by go_num,by rw [HNX.out];exact HOW.out,by first | exact HB.out | exact below_drewN' HB.out _⟩
       case measure=>simp [intOf];omega
      | true =>
      cases xd with
      | false =>
       have HNX:Hid (comR t C nc (d+1)=comR t C nc d):=Lib.hid (by rw [HCX.out];exact if_neg (by simp))
       go_wp2_with fail
       go_roundw
       case rel=>exact ⟨d+1,by omega,by go_num,by rw [HNX.out];exact HOW.out,by first | exact HB.out | exact below_drewN' HB.out _⟩
       case measure=>simp [intOf];omega
      | true =>
       have HNX:Hid (comR t C nc (d+1)=comR t C nc d):=Lib.hid (by rw [HCX.out];exact if_neg (by simp))
       go_wp2_with fail
       go_roundw
       case rel=>exact ⟨d+1,by omega,by go_num,by rw [HNX.out];exact HOW.out,by first | exact HB.out | exact below_drewN' HB.out _⟩
       case measure=>simp [intOf];omega
     | true =>
      go_upto_region 8 with (fail)
      go_quiet (fail)
      clear hy1 hy2 hvb hvc hvd hw1 hw2
      cases xb with
      | false =>
       have HNX:Hid (comR t C nc (d+1)=comR t C nc d):=Lib.hid (by rw [HCX.out];exact if_neg (by simp))
       go_wp2_with fail
       go_roundw
       case rel=>exact ⟨d+1,by omega,by go_num,by rw [HNX.out];exact HOW.out,by first | exact HB.out | exact below_drewN' HB.out _⟩
       case measure=>simp [intOf];omega
      | true =>
      cases xc with
      | false =>
       have HNX:Hid (comR t C nc (d+1)=comR t C nc d):=Lib.hid (by rw [HCX.out];exact if_neg (by simp))
       go_wp2_with fail
       go_roundw
       case rel=>exact ⟨d+1,by omega,by go_num,by rw [HNX.out];exact HOW.out,by first | exact HB.out | exact below_drewN' HB.out _⟩
       case measure=>simp [intOf];omega
      | true =>
      cases xd with
      | false =>
       have HNX:Hid (comR t C nc (d+1)=comR t C nc d):=Lib.hid (by rw [HCX.out];exact if_neg (by simp))
       go_wp2_with fail
       go_roundw
       case rel=>exact ⟨d+1,by omega,by go_num,by rw [HNX.out];exact HOW.out,by first | exact HB.out | exact below_drewN' HB.out _⟩
       case measure=>simp [intOf];omega
      | true =>
       have HNX:Hid (comR t C nc (d+1)=(comR t C nc d).set b true):=Lib.hid (by rw [HCX.out];exact if_pos rfl)
       have hst:=(HOW.out.stored b (.bool true)).1
       rw [← List.map_set,← HNX.out] at hst
       have hce:=HOW.out.cellAt b (by omega)
       rw [getD_mapO _ (by rw [comR_len];exact hbN)] at hce
       have hfz:=HOW.out.frozenAt b
       have HST:=Lib.hid hst
       have HBS:=Lib.hid (HB.out.setCell (p:=⟨G,b,none⟩) (by rw [HG.out];exact Nat.le_refl _) (.bool true))
       clear hst HNX
       go_wp2_with fail
       go_roundw
       case rel=>exact ⟨d+1,by omega,by go_num,HST.out,by first | exact HBS.out | exact below_drewN' HBS.out _⟩
       case measure=>simp [intOf];omega
theorem RowO.grownC {w w':World} {b off n:Nat} {row:Option Nat} {C:List Bool} (h:RowO w (some ⟨b,off,none⟩) n C) (hg:w.grownBy w' row) (hne:some b≠row):RowO w' (some ⟨b,off,none⟩) n C:=by
 obtain ⟨h1,h2,h3⟩:=h
 refine ⟨h1,h2,fun hl=>?_⟩
 obtain ⟨b',off',he,hc⟩:=h3 hl
 obtain ⟨rfl,rfl⟩:b=b'∧off=off':=by simpa using he
 exact ⟨b,off,rfl,fun i hi=>World.grownBy.cell hg (hc i hi) hne⟩
set_option maxRecDepth 100000 in
set_option maxHeartbeats 8000000 in
theorem commitHeads_spec (v1 v2 v3:Value) (t:Tre) (a:Option Addr) (n c:Nat) (cs:List Ver) (w:World) (h:TreRd w v1 v2 v3 t) (hc:RowV w a n cs) :
  Calls Tryz.prog 53 #[.agg #[v1,v2,v3],.slice a n c] w (NewIs w (hdsM t (cerM t cs))):=by
 have hrd:=h
 obtain ⟨⟨a1,n1,c1,rfl,-⟩,⟨a2,n2,c2,rfl,r2,-,-⟩,a3,n3,c3,rfl,r3,-,-⟩:=h
 obtain rfl:t.blocks.length=n2:=r2.1
 have hm2:=r2.2.1
 unfold maxLen at hm2
 have hb0:=(Below.refl w.heap.size w).alloc (Nat.le_refl _) (.cells #[.slice a1 n1 c1,.slice a2 t.blocks.length c2,.slice a3 n3 c3] 27)
 have hg0:=trAt_new w 27 (.slice a1 n1 c1) (.slice a2 t.blocks.length c2) (.slice a3 n3 c3)
 have hr0:=hrd.below hb0
 obtain ⟨W0,hW0⟩:∃ W0,W0=w.alloc (.cells #[.slice a1 n1 c1,.slice a2 t.blocks.length c2,.slice a3 n3 c3] 27):=⟨_,rfl⟩
 have hc0:=hc.below (hW0 ▸ hb0)
 rw [← hW0] at hb0 hg0 hr0
 have hw0s:W0.heap.size=w.heap.size+1:=by rw [hW0];simp
 have ho0:=(own_lit (w:=W0) (B:=W0.heap.size) 3 1 #[] 0 (Nat.le_refl _) (by unfold maxLen;omega) rfl).1
 have hb1:=(Below.refl W0.heap.size W0).alloc (Nat.le_refl _) (.cells #[] 3)
 obtain ⟨W1,hW1⟩:∃ W1,W1=W0.alloc (.cells #[] 3):=⟨_,rfl⟩
 have HW1:=Lib.hid hW1
 rw [← hW1] at ho0 hb1
 have HW0:=Lib.hid hW0
 clear hW0 hW1 hrd r2 r3
 have HK:=Lib.hid (fun (W:World) (hb:Below W0.heap.size W0 W)=>(⟨hg0.below hb,hr0.below hb,hc0.below hb,hb0.trans (hb.mono hb0.size)⟩:TrAt W w.heap.size (.slice a1 n1 c1) (.slice a2 t.blocks.length c2) (.slice a3 n3 c3)∧TreRd W (.slice a1 n1 c1) (.slice a2 t.blocks.length c2) (.slice a3 n3 c3) t∧RowV W a n cs∧Below w.heap.size w W))
 have HO:=Lib.hid ho0
 have HB1:=Lib.hid hb1
 clear ho0 hb1
 have HS0:=Lib.hid hb0.size
 clear hb0 hg0 hr0 hc0
 go_enter Tryz.func53,Tryz.ntmps53
 go_upto_region 2 with (fail)
 rw [← HW0.out,← hw0s,← HW1.out]
 clear HW0 HW1 hw0s
 obtain ⟨⟨x0,x1,x2,-⟩,hrd,hrc,-⟩:=HK.out W1 HB1.out
 have HRD:=Lib.hid hrd
 have HRC:=Lib.hid hrc
 clear hrd hrc
 go_wp2_with fail
 refine (certifiedBlocks_spec _ _ _ t a n c cs W1 HRD.out HRC.out).mono ?_;rintro e w2 ⟨v2,rfl,ho2,hl2,hb2⟩
 have HB2:=Lib.hid (HB1.out.trans (hb2.mono HB1.out.size))
 have HO2:=Lib.hid (owns_below HO.out hb2)
 clear x0 x1 x2 hb2 HO HRD HRC
 obtain ⟨⟨x0,x1,x2,-⟩,-,-,hbf⟩:=HK.out w2 HB2.out
 have HBF:=Lib.hid hbf
 obtain ⟨ac,cc,rfl,hro,-⟩:=rowO_of_owns ho2 (by omega)
 rcases cerM_cases t cs with ⟨hf,-⟩ | ⟨ht,-,-,hl,hp,h14⟩
 · have HF:=Lib.hid hf
   have HO3:=Lib.hid (owns_mono HO2.out HS0.out)
   rw [hf]
   rw [show ([]:List Bool).length=0 from rfl]
   clear hbf hro ho2 hl2 hf x0 x1 x2
   go_wp2_with fail
   go_ret
   rw [HF.out,hdsM_none];exact ⟨_,rfl,HO3.out,fun x hx=>(by cases hx),by simp,HBF.out⟩
 · obtain ⟨N,hN⟩:∃ N,N=(cerM t cs).length:=⟨_,rfl⟩
   have HFI:=Lib.hid (hdsM_ok (t:=t) (C:=cerM t cs) h14)
   have HHD:Hid (upTo (comK (cerM t cs) t.bef (vwAt t) N) N=hdsM t (cerM t cs)):=Lib.hid (by unfold hdsM;rw [hN])
   rw [← hN] at hro hl hp h14 ⊢
   have HRO:=Lib.hid hro
   have HT:=Lib.hid ht
   have HL:=Lib.hid hl
   have hn0:0 < N:=hp
   have hN14:N≤14:=h14
   have e0:(((N:Nat):Int) == 0)=false:=by simp;omega
   have hrd:=(HK.out w2 HB2.out).2.1
   have HRD:=Lib.hid hrd
   clear hbf hro ho2 hl2 ht hrd hN hl hp h14
   go_wp2_with fail
   refine (l16Commits_spec _ _ _ t ac _ cc (cerM t cs) w2 HRD.out HT.out HRO.out HL.out).mono ?_;rintro e w5 ⟨v5,rfl,ho5,hl5,hb5⟩
   rw [comR_len,← HL.out] at ho5
   obtain ⟨a5,c5,rfl,hr5,-⟩:=rowO_of_owns ho5 (by omega)
   obtain ⟨bl,ol,rfl,-⟩:=hr5.2.2 hn0
   have hbl:=ho5.lt bl (by rfl)
   have h02:W0.heap.size < w2.heap.size:=(HO2.out.lt W0.heap.size (by rfl)).2
   have HB5:=Lib.hid (HB2.out.trans (hb5.mono HB2.out.size))
   have HO5:=Lib.hid (owns_below HO2.out hb5)
   have HR5:=Lib.hid hr5
   have HBL:=Lib.hid hbl.2
   have HNE:Hid (W0.heap.size≠bl):=Lib.hid (by have:=hbl.1;omega)
   clear ho5 hl5 hb5 hr5 hbl h02 HB2 HO2 HRO HRD HBF x0 x1 x2
   obtain ⟨hd,hhd⟩:∃ hd,hd=comK (cerM t cs) t.bef (vwAt t) N:=⟨_,rfl⟩
   have HCG:Hid (∀ k,k < N→(comR t (cerM t cs) N N).getD k false=hd k):=Lib.hid (fun k hk=>by rw [comR_getD _ _ _ _ hk,hhd])
   rw [← hhd] at HHD
   clear hhd
   go_wp2_with fail
   go_loopw [5,8] (fun hv i wr=>∃ k:Nat,k≤N∧i = .int .i64 (k:Int)∧wr.ownsRow W0.heap.size 3 1 hv (upTo hd k).length ((upTo hd k).map (Value.int .i64))∧hv.ownBlock≠some bl∧RowO wr (some ⟨bl,ol,none⟩) N (comR t (cerM t cs) N N)∧bl < wr.heap.size∧Below W0.heap.size W0 wr) (fun _ i _=>N - (intOf i).toNat)
   case atStart=>exact ⟨0,Nat.zero_le _,rfl,HO5.out,by have:=HNE.out;simp [Value.ownBlock];exact this,HR5.out,HBL.out,HB5.out⟩
   case round =>
    clear HO5 HNE HR5 HBL HB5
    obtain ⟨k,hk,rfl,hoh,hne,hro,hbl,hb⟩:=hrel
    obtain ⟨ah,nh,ch,rfl⟩:=slice_form hoh
    by_cases hlt:k < N
    · obtain ⟨_,_,e9,hcl⟩:=hro.2.2 (by omega)
      simp only [Option.some.injEq,Addr.mk.injEq] at e9
      obtain ⟨rfl,rfl,-⟩:=e9
      have hck:=hcl k hlt
      rw [HCG.out k hlt] at hck
      have i1:(0:Int)≤(k:Int):=by omega
      have i2:(k:Int) < (N:Int):=by omega
      have hul:=upTo_len hd k
      obtain ⟨y,hy⟩:∃ y,y=hd k:=⟨_,rfl⟩
      rw [← hy] at hck
      have HOH:=Lib.hid hoh
      have HNE:=Lib.hid hne
      have HRO:=Lib.hid hro
      have HB:=Lib.hid hb
      have HY:=Lib.hid hy
      have hbs:W0.heap.size≤wr.heap.size:=hb.size
      clear hcl hoh hne hro hb hy
      cases y with
      | false =>
       have HU:Hid (upTo hd (k+1)=upTo hd k):=Lib.hid (by rw [upTo,← HY.out];rfl)
       go_wp2_with fail
       go_roundw
       case rel=>exact ⟨k+1,by omega,by go_num,by rw [HU.out];exact HOH.out,HNE.out,HRO.out,hbl,HB.out⟩
       case measure=>simp [intOf];omega
      | true =>
       have HU:Hid (upTo hd (k+1)=upTo hd k++[(k:Int)]):=Lib.hid (by rw [upTo,← HY.out];rfl)
       go_upto_region 10 with (fail)
       clear hck
       go_wp2_with (first | (at_builtin;refine wpList_append_lit (W:=wr) rfl _ _ 25 rfl W0.heap.size 3 3 (.int .i64 0) 1 8 1 Tryz.underlying25 infoIntP rfl (by decide) _ (upTo hd k).length _ [.int .i64 (k:Int)] (by rfl) HOH.out (by simp [Act.eval]) rfl ?c11 (by decide) ?c21 (by decide) ?c31 ?_))
       case c11=>intro u hu;simp at hu;rcases hu with rfl;rfl
       case c21=>show (upTo hd k).length+1≤_;omega
       case c31=>exact hbs
       intro v10 w10 ho10 hnn10 hg10 hat10
       have hba:Below wr.heap.size wr (wr.alloc (.cells #[.int .i64 (k:Int)] 3)):=(Below.refl _ _).alloc (Nat.le_refl _) _
       have HRO2:=Lib.hid ((HRO.out.below hba).grownC hg10 (fun q=>HNE.out q.symm))
       have HB2:Hid (Below W0.heap.size W0 w10):=Lib.hid ((HB.out.trans (hba.mono hbs)).grown hg10 (by rw [World.size_alloc];omega) (fun k hk=>(HOH.out.lt k hk).1))
       have hbl2:bl < w10.heap.size:=by have:=hg10.size;rw [World.size_alloc] at this;omega
       have HNE2:Hid (v10.ownBlock≠some bl):=Lib.hid (by
        rcases hat10 with q | q
        · rw [q];exact HNE.out
        · rw [q];intro q2;simp only [Option.some.injEq] at q2;omega)
       have HOH2:Hid (w10.ownsRow W0.heap.size 3 1 v10 (upTo hd (k+1)).length ((upTo hd (k+1)).map (Value.int .i64))):=Lib.hid (by rw [HU.out,List.length_append,List.map_append];exact ho10)
       clear ho10 hnn10 hg10 hat10 hba
       go_wp2_with fail
       go_roundw
       case rel=>exact ⟨k+1,by omega,by go_num,HOH2.out,HNE2.out,HRO2.out,hbl2,HB2.out⟩
       case measure=>simp [intOf];omega
    · obtain rfl:k=N:=by omega
      rw [HHD.out] at hoh
      have HOF:=Lib.hid (owns_mono hoh HS0.out)
      have HBW:=Lib.hid (HK.out wr hb).2.2.2
      clear hoh hne hro hb
      go_wp2_with fail
      go_ret
      exact ⟨_,rfl,HOF.out,HFI.out.1,HFI.out.2,HBW.out⟩
set_option maxRecDepth 100000 in
set_option maxHeartbeats 8000000 in
theorem committedTo_spec (v1 v2 v3:Value) (t:Tre) (a:Option Addr) (n c:Nat) (cs:List Ver) (w:World) (h:TreRd w v1 v2 v3 t) (hc:RowV w a n cs) :
  Calls Tryz.prog 58 #[.agg #[v1,v2,v3],.slice a n c] w (IntB (ctM t cs) w):=by
 have hrd:=h
 obtain ⟨⟨a1,n1,c1,rfl,-⟩,⟨a2,n2,c2,rfl,r2,-,-⟩,a3,n3,c3,rfl,r3,-,-⟩:=h
 obtain rfl:t.blocks.length=n2:=r2.1
 have hm2:=r2.2.1
 unfold maxLen at hm2
 have hb0:=(Below.refl w.heap.size w).alloc (Nat.le_refl _) (.cells #[.slice a1 n1 c1,.slice a2 t.blocks.length c2,.slice a3 n3 c3] 27)
 have hg0:=trAt_new w 27 (.slice a1 n1 c1) (.slice a2 t.blocks.length c2) (.slice a3 n3 c3)
 have hr0:=hrd.below hb0
 obtain ⟨W0,hW0⟩:∃ W0,W0=w.alloc (.cells #[.slice a1 n1 c1,.slice a2 t.blocks.length c2,.slice a3 n3 c3] 27):=⟨_,rfl⟩
 have hc0:=hc.below (hW0 ▸ hb0)
 rw [← hW0] at hb0 hg0 hr0
 have hw0s:W0.heap.size=w.heap.size+1:=by rw [hW0];simp
 have HW0:=Lib.hid hW0
 clear hW0 hrd r2 r3
 have HK:=Lib.hid (fun (W:World) (hb:Below W0.heap.size W0 W)=>(⟨hg0.below hb,hr0.below hb,hc0.below hb,hb0.trans (hb.mono hb0.size)⟩:TrAt W w.heap.size (.slice a1 n1 c1) (.slice a2 t.blocks.length c2) (.slice a3 n3 c3)∧TreRd W (.slice a1 n1 c1) (.slice a2 t.blocks.length c2) (.slice a3 n3 c3) t∧RowV W a n cs∧Below w.heap.size w W))
 have HS0:=Lib.hid hb0.size
 clear hb0 hg0 hr0 hc0
 go_enter Tryz.func58,Tryz.ntmps58
 go_upto_region 1 with (fail)
 rw [← HW0.out]
 clear HW0 hw0s
 obtain ⟨⟨x0,x1,x2,-⟩,hrd,hrc,-⟩:=HK.out W0 (Below.refl _ _)
 have HRD:=Lib.hid hrd
 have HRC:=Lib.hid hrc
 clear hrd hrc
 go_wp2_with fail
 refine (certifiedBlocks_spec _ _ _ t a n c cs W0 HRD.out HRC.out).mono ?_;rintro e w2 ⟨v2,rfl,ho2,hl2,hb2⟩
 have HB2:=Lib.hid hb2
 clear x0 x1 x2 hb2
 obtain ⟨⟨x0,x1,x2,-⟩,hrd2,hrc2,hbf⟩:=HK.out w2 HB2.out
 have HRD2:=Lib.hid hrd2
 have HRC2:=Lib.hid hrc2
 have HBF:=Lib.hid hbf
 obtain ⟨ac,cc,rfl,-⟩:=rowO_of_owns ho2 (by omega)
 clear ho2 hl2 hrd2 hrc2 hbf
 rcases cerM_cases t cs with ⟨hf,-⟩ | ⟨ht,-,-,hl,hp,h14⟩
 · have HF:=Lib.hid hf
   rw [hf]
   rw [show ([]:List Bool).length=0 from rfl]
   clear hf
   go_wp2_with fail
   go_ret
   exact ⟨by unfold ctM;rw [HF.out];rfl,HBF.out⟩
 · have hH:∀ x∈hdsM t (cerM t cs),∃ k:Nat,x=k∧k < t.blocks.length:=fun x hx=>by obtain ⟨k,e,hk,-⟩:=hdsM_mem hx;exact ⟨k,e,by rw [← hl];exact hk⟩
   have HE:Hid (ctM t cs=ctoM t (hdsM t (cerM t cs))):=Lib.hid (by unfold ctM;rw [if_neg (by omega)])
   have HH:=Lib.hid hH
   have HT:=Lib.hid ht
   obtain ⟨H,hHe⟩:∃ H,H=hdsM t (cerM t cs):=⟨_,rfl⟩
   rw [← hHe] at HE HH
   have HHE:=Lib.hid hHe
   obtain ⟨M,hM⟩:∃ M,M=(cerM t cs).length:=⟨_,rfl⟩
   rw [← hM] at hp ⊢
   have e0:(((M:Nat):Int) == 0)=false:=by simp;omega
   clear hl hp h14 hM hH hHe ht
   go_wp2_with fail
   refine (commitHeads_spec _ _ _ t a n c cs w2 HRD2.out HRC2.out).mono ?_;rintro e w3 ⟨v3,rfl,ho3,hwf3,hl3,hb3⟩
   rw [← HHE.out] at ho3 hwf3 hl3
   obtain ⟨ah,ch,rfl,hr3⟩:=rowI_of_owns ho3 (by unfold maxLen;omega) hwf3
   have HB3:=Lib.hid (HB2.out.trans (hb3.mono HB2.out.size))
   have HR3:=Lib.hid hr3
   have HHL:=Lib.hid hr3.1
   have hl14:=hl3
   obtain ⟨nh,hnh⟩:∃ nh,nh=H.length:=⟨_,rfl⟩
   have HNH:=Lib.hid hnh
   rw [← hnh] at hl14 HR3 ⊢
   clear ho3 hwf3 hl3 hb3 hr3 hnh HB2 HBF HRD2 HRC2 e0 x0 x1 x2
   have htk:=(treB_iff t).1 HT.out
   obtain ⟨b,off,b3,off3,rfl,rfl,hn2,rfl,hcells⟩:=trRd_cells HRD.out htk
   have h1:=htk.one
   have hto:∀ k,k≤H.length→∃ T:Nat,toK (vwAt t) H k=T∧T < t.blocks.length:=by
    intro k hk
    rcases toK_mem (V:=vwAt t) (H:=H) k hk with e | e
    · exact ⟨0,e,h1⟩
    · exact HH.out _ e
   have hat:∀ j,j < H.length→∃ k:Nat,H.getD j 0=k∧k < t.blocks.length:=fun j hj=>HH.out _ (by
    rw [List.getD_eq_getElem?_getD,List.getElem?_eq_getElem hj];exact List.getElem_mem _)
   obtain ⟨N,hN⟩:∃ N,N=t.blocks.length:=⟨_,rfl⟩
   rw [← hN] at hcells hto hat HK ⊢
   rw [← HNH.out] at hto hat
   have HTO:=Lib.hid hto
   have HAT:=Lib.hid hat
   have HCL:=Lib.hid hcells
   clear htk h1 hto hat hcells hn2 hN
   go_wp2_with fail
   go_loopw [5,7] (fun q i wr=>∃ k:Nat,k≤nh∧i = .int .i64 (k:Int)∧q = .int .i64 (toK (vwAt t) H k)∧Below w3.heap.size w3 wr) (fun _ i _=>nh - (intOf i).toNat)
   case atStart=>exact ⟨0,Nat.zero_le _,rfl,rfl,Below.refl _ _⟩
   case round =>
    obtain ⟨k,hk,rfl,rfl,hb⟩:=hrel
    obtain ⟨T,hT,hTN⟩:=HTO.out k hk
    have hb0w:=HB3.out.trans (hb.mono HB3.out.size)
    by_cases hlt:k < nh
    · obtain ⟨⟨x0,x1,x2,-⟩,-,-,-⟩:=HK.out wr hb0w
      have hvw:=(HCL.out wr hb0w).1
      have hrw:=HR3.out.below hb
      obtain ⟨x,hx,hxN⟩:=HAT.out k hlt
      obtain ⟨bh,oh,rfl,hch⟩:=hrw.2.2.1 (by omega)
      have hcx:=hch k hlt
      rw [hx] at hcx
      have hvx:=hvw x hxN
      have hvt:=hvw T hTN
      obtain ⟨vx,hvx2⟩:∃ v,v=vwAt t x:=⟨_,rfl⟩
      obtain ⟨vt,hvt2⟩:∃ v,v=vwAt t T:=⟨_,rfl⟩
      rw [← hvx2] at hvx
      rw [← hvt2] at hvt
      have HEQ:Hid (toK (vwAt t) H (k+1)=if vt < vx then (x:Int) else (T:Int)):=Lib.hid (by rw [toK,hT,hx,Int.toNat_natCast,Int.toNat_natCast,← hvx2,← hvt2])
      rw [hT]
      have HB:=Lib.hid hb
      have i1:(0:Int)≤(x:Int):=by omega
      have i2:(x:Int) < (N:Int):=by omega
      have i3:(0:Int)≤(T:Int):=by omega
      have i4:(T:Int) < (N:Int):=by omega
      have i5:(0:Int)≤(k:Int):=by omega
      have i6:(k:Int) < (nh:Int):=by omega
      clear hvw hrw hch hx hT hvx2 hvt2 hb hTN hxN hb0w
      by_cases hv:vt < vx
      · have e2:decide (vt < vx)=true:=decide_eq_true hv
        have HE2:Hid (toK (vwAt t) H (k+1)=(x:Int)):=Lib.hid (by rw [HEQ.out,if_pos hv])
        clear hv HEQ
        go_upto_region 8 with (fail)
        go_quiet (fail)
        go_wp2_with fail
        go_roundw
        case rel=>exact ⟨k+1,by omega,by go_num,by rw [HE2.out],by first | exact HB.out | exact below_drewN' HB.out _⟩
        case measure=>simp [intOf];omega
      · have e2:decide (vt < vx)=false:=decide_eq_false hv
        have HE2:Hid (toK (vwAt t) H (k+1)=(T:Int)):=Lib.hid (by rw [HEQ.out,if_neg hv])
        clear hv HEQ
        go_upto_region 8 with (fail)
        go_quiet (fail)
        go_wp2_with fail
        go_roundw
        case rel=>exact ⟨k+1,by omega,by go_num,by rw [HE2.out],by first | exact HB.out | exact below_drewN' HB.out _⟩
        case measure=>simp [intOf];omega
    · obtain rfl:k=nh:=by omega
      have HE3:Hid (toK (vwAt t) H k=ctM t cs):=Lib.hid (by rw [HE.out];unfold ctoM;rw [← HNH.out])
      have HBW:=Lib.hid (HK.out wr hb0w).2.2.2
      rw [HE3.out]
      clear hT hb0w hb
      go_wp2_with fail
      go_ret
      exact ⟨rfl,HBW.out⟩
end Go.Proofs.YtpnjgmgmakmgeaaGreat

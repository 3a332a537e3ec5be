/- The walk of the law FnCommitHeads (gen19/lawcmd.py). -/
import Derived.Test.YtpnjgmgmakmgeaaGreatDrC
import Derived.Test.YtpnjgmgmakmgeaaGreatCmI
import Derived.Test.YtpnjgmgmakmgeaaGreatCmS
import Derived.Test.YtpnjgmgmakmgeaaGreatOne
import Derived.Test.YtpnjgmgmakmgeaaGreatConv
import Derived.BigQuiet
import Derived.Test.YtpnjgmgmakmgeaaGreatRegJ
namespace Go.Proofs.YtpnjgmgmakmgeaaGreat
open Go.RowKit
set_option linter.unusedVariables false
set_option linter.unusedSimpArgs false
theorem keepC {w w':World} {p:Addr} {v:Value} (hb:Below w.heap.size w w') (h:w.cell? p=some v):w'.cell? p=some v:=(hb.cell (World.block_lt_of_cell? w p h)).trans h
set_option maxRecDepth 100000 in
set_option maxHeartbeats 8000000 in
theorem lawCommitHeads (a:Option Addr) (len cap:Nat) (z:List Int) (w:World) (h:RowB w a len z) (hc:a=none→cap=0) (hlc:len≤cap) :
  Calls Tryz.prog 13 #[.slice a len cap] w (LawTrue w):=by
 by_cases hs:len≤1048576
 case neg =>
  have hs':(1048576:Int) < (len:Int):=by omega
  clear h hlc
  go_enter Tryz.func13,Tryz.ntmps13
  go_wp2
  go_ret
  exact ⟨rfl,Below.refl _ _⟩
 case pos =>
  have hs':¬ (1048576:Int) < (len:Int):=by omega
  go_enter Tryz.func13,Tryz.ntmps13
  go_wp2_with fail
  refine (drawCommitHeads_any a len cap z w h hlc).mono ?_;rintro e w1 ⟨b1,m1,d1,b2,m2,d2,b3,m3,d3,t,g,nx,cx,L,rfl,hrd,hsm,hnc,hn31,hb1⟩
  have HRD:=Lib.hid hrd
  have HB1:=Lib.hid hb1
  have HNC:=Lib.hid hnc
  have HN31:=Lib.hid hn31
  clear h hs hs' hc hlc hrd hb1 hsm hnc hn31
  go_upto_region 4 with (fail)
  generalize hw2:World.alloc _ _=w2
  have hb2:Below w1.heap.size w1 w2:=by rw [← hw2];exact (Below.refl _ _).alloc (Nat.le_refl _) _
  have hX2:TrAt w2 w1.heap.size (.slice b1 m1 d1) (.slice b2 m2 d2) (.slice b3 m3 d3):=by rw [← hw2];exact trAt_new w1 _ _ _ _
  obtain ⟨Z,hZ⟩:∃ Z,Z=w1.heap.size:=⟨_,rfl⟩
  rw [← hZ] at hX2 ⊢
  have HK:=Lib.hid (fun (W:World) (hb:Below w2.heap.size w2 W)=>(⟨hX2.below hb,(HRD.out W (fun k _ h2=>(hb2.trans (hb.mono hb2.size)).block k h2)).1,(HRD.out W (fun k _ h2=>(hb2.trans (hb.mono hb2.size)).block k h2)).2,HB1.out.trans ((hb2.trans (hb.mono hb2.size)).mono HB1.out.size)⟩:TrAt W Z (.slice b1 m1 d1) (.slice b2 m2 d2) (.slice b3 m3 d3)∧TreRd W (.slice b1 m1 d1) (.slice b2 m2 d2) (.slice b3 m3 d3) t∧RowV W (some ⟨g,0,none⟩) nx L∧Below w.heap.size w W))
  clear hw2 hb2 hX2 hZ HRD HB1
  obtain ⟨⟨z0,z1,z2,-⟩,hr,hv,-⟩:=HK.out w2 (Below.refl _ _)
  have HR:=Lib.hid hr
  have HV:=Lib.hid hv
  clear hr hv
  go_wp2_with fail
  refine (commitHeads_impl _ _ _ t _ _ cx L w2 HR.out HV.out).mono ?_;rintro e w3 ⟨vx,rfl,hox,hwx,hlx,hb3⟩
  clear z0 z1 z2 HR HV
  obtain ⟨ax,kx,rfl,rx⟩:=rowI_of_owns hox (by unfold maxLen;omega) hwx
  have HX3:=Lib.hid rx
  have HB3:=Lib.hid hb3
  clear hb3 hox hwx hlx rx
  obtain ⟨⟨z0,z1,z2,-⟩,hr,hv,-⟩:=HK.out w3 HB3.out
  have HR:=Lib.hid hr
  have HV:=Lib.hid hv
  clear hr hv
  go_wp2_with fail
  refine (commitHeads_spec _ _ _ t _ _ cx L w3 HR.out HV.out).mono ?_;rintro e w4 ⟨vy,rfl,hoy,hwy,hly,hb4⟩
  clear z0 z1 z2 HR HV
  obtain ⟨ay,ky,rfl,ry⟩:=rowI_of_owns hoy (by unfold maxLen;omega) hwy
  have HY4:=Lib.hid ry
  have HX4:=Lib.hid (HX3.out.below hb4)
  have HB4:=Lib.hid (HB3.out.trans (hb4.mono HB3.out.size))
  clear hb4 hoy hwy hly ry HB3 HX3
  go_wp2_with fail
  refine (sameInts_same _ _ _ kx ky _ w4 HX4.out HY4.out).mono ?_;rintro e w5 ⟨rfl,hb5⟩
  have HX5:=Lib.hid (HX4.out.below hb5)
  have HB5:=Lib.hid (HB4.out.trans (hb5.mono HB4.out.size))
  clear hb5 HB4 HX4 HY4
  obtain ⟨⟨z0,z1,z2,-⟩,hr,hv,-⟩:=HK.out w5 HB5.out
  have HR:=Lib.hid hr
  have HV:=Lib.hid hv
  clear hr hv
  go_wp2_with fail
  refine (certifiedBlocks_impl _ _ _ t _ _ cx L w5 HR.out HV.out).mono ?_;rintro e w6 ⟨vc,rfl,hoc,hlc,hb6⟩
  clear z0 z1 z2 HR HV
  obtain ⟨ac,kc,rfl,rc,-⟩:=rowO_of_owns hoc (by omega)
  have HC6:=Lib.hid rc
  have HX6:=Lib.hid (HX5.out.below hb6)
  have HB6:=Lib.hid (HB5.out.trans (hb6.mono HB5.out.size))
  clear hb6 hoc rc HB5 HX5
  obtain ⟨C,hC⟩:∃ C,C=cerM t L:=⟨_,rfl⟩
  obtain ⟨H,hH⟩:∃ H,H=hdsM t C:=⟨_,rfl⟩
  obtain ⟨N,hN⟩:∃ N,N=C.length:=⟨_,rfl⟩
  obtain ⟨M,hM⟩:∃ M,M=H.length:=⟨_,rfl⟩
  have hMN:M≤N:=by rw [hM,hH,hN];exact hdsM_len
  have hN14:N≤14:=by rw [hN,hC];exact cerM_len14 t L
  have hasc:∀ j,j+1 < M→H.getD j 0 < H.getD (j+1) 0:=fun j hj=>by
   have e:H=upTo (comK C t.bef (vwAt t) C.length) C.length:=hH
   rw [e] at hM ⊢
   exact upTo_asc _ j (j+1) (by omega) (by omega)
  have hfact:∀ j,j < M→treB t=true∧N=t.blocks.length∧∃ x d c:Nat,H.getD j 0=(x:Int)∧x < N∧d < N∧c < N∧0 < c∧0 < d∧t.bef.getD d 0=(c:Int)∧t.bef.getD c 0=(x:Int)∧vwAt t c=vwAt t x+1∧vwAt t d=vwAt t x+2∧C.getD x false=true∧C.getD c false=true∧C.getD d false=true:=fun j hj=>by
   rw [hM,hH] at hj
   obtain ⟨x,hx,hxN,hk⟩:=hdsM_at hj
   obtain ⟨d,hd,hcd⟩:=comK_iff.1 hk
   obtain ⟨c,h1,h2,h3,h4,h5,h6,h7⟩:=comD_iff.1 hcd
   rcases cerM_cases t L with ⟨hf,-⟩ | ⟨ht,-,-,hl,-,-⟩
   · rw [hC,hf] at hxN;simp at hxN
   · have htk:=(treB_iff t).1 ht
     rw [← hC] at hl
     have hcd2:=(htk.befBd (k:=d) (by omega)).2
     rw [h1] at hcd2
     have hroot:=htk.root
     have hc0:0 < c:=by
      rcases Nat.eq_zero_or_pos c with q | q
      · rw [q,hroot] at h2;omega
      · exact q
     refine ⟨ht,hN.trans hl,x,d,c,by rw [hH];exact hx,by omega,by omega,by omega,hc0,by omega,h1,h2,h3,by omega,h5,h6,h7⟩
  rw [← hC] at HX6 HC6 ⊢
  rw [← hH] at HX6 ⊢
  rw [← hM] at HX6 ⊢
  rw [← hN] at HC6 ⊢
  have HAS:=Lib.hid hasc
  have HFA:=Lib.hid hfact
  clear hC hH hN hM hasc hfact
  go_wp2_with fail
  go_loopw [7] (fun i wr=>∃ k:Nat,k≤M∧i = .int .i64 (k:Int)∧Below w6.heap.size w6 wr) (fun i _=>M - (intOf i).toNat)
  case atStart=>exact ⟨0,Nat.zero_le _,rfl,Below.refl _ _⟩
  case round =>
   obtain ⟨k,hk,rfl,hb⟩:=hrel
   by_cases hlt:k < M
   case neg =>
    obtain rfl:k=M:=by omega
    have HBE:=Lib.hid (HK.out wr (HB6.out.trans (hb.mono HB6.out.size))).2.2.2
    have f1:decide ((k:Int)≤(N:Int))=true:=decide_eq_true (by omega)
    have f2:decide (k≤N)=true:=decide_eq_true hMN
    clear hb
    go_wp2_with fail
    refine (alive_any _).mono ?_;rintro e wz ⟨rfl,hbz⟩
    have HBF:=Lib.hid (HBE.out.trans (hbz.mono HBE.out.size))
    clear hbz
    go_wp2
    go_ret
    exact ⟨rfl,HBF.out⟩
   case pos =>
    obtain ⟨ht,hl,x,d0,c0,hx,hxN,hd0N,hc0N,hc0,hd0,q1,q2,q3,q4,q5,q6,q7⟩:=HFA.out k hlt
    have htk:=(treB_iff t).1 ht
    obtain ⟨b,off,b3',off3,rfl,rfl,rfl,rfl,hcells⟩:=trRd_cells (HK.out w2 (Below.refl _ _)).2.1 htk
    have HVB:=Lib.hid (fun c (hc:c < t.blocks.length)=>view_bd htk hc)
    have HBB:=Lib.hid (fun c (hc:c < t.blocks.length)=>htk.befBd hc)
    rw [← hl] at hcells HVB HBB HK ⊢
    have HQ:Hid (t.bef.getD d0 0=(c0:Int)∧t.bef.getD c0 0=(x:Int)∧vwAt t c0=vwAt t x+1∧vwAt t d0=vwAt t x+2∧C.getD c0 false=true∧C.getD d0 false=true):=Lib.hid ⟨q1,q2,q3,q4,q6,q7⟩
    have HQ5:=Lib.hid q5
    have HCL:=Lib.hid (fun (W:World) (hb:Below w6.heap.size w6 W)=>hcells W (HB6.out.trans (hb.mono HB6.out.size)))
    have HXE:=Lib.hid hx
    have HLN:=Lib.hid hl
    obtain ⟨wo,hwo⟩:∃ wo,wo=wr:=⟨wr,rfl⟩
    subst hwo
    have HBO:=Lib.hid hb
    have hk0:(0:Int)≤(k:Int):=by omega
    have hk1:(k:Int) < (M:Int):=by omega
    have ix0:(0:Int)≤(x:Int):=by omega
    have ix1:(x:Int) < (N:Int):=by omega
    clear q1 q2 q3 q4 q5 q6 q7 hcells htk hx hb ht hl
    go_wp2_with fail
    go_loopw [8,9] (fun fv dv wr=>∃ (d:Nat) (fb:Bool),1≤d∧d≤N∧dv = .int .i64 (d:Int)∧fv = .bool fb∧(fb=true∨d≤d0)∧Below wo.heap.size wo wr) (fun _ dv _=>N - (intOf dv).toNat)
    case atStart=>exact ⟨1,false,by omega,by omega,rfl,rfl,.inr (by omega),Below.refl _ _⟩
    case round =>
     obtain ⟨d,fb,hd1,hdN,rfl,rfl,hor,hb⟩:=hrel
     have HB2:=Lib.hid hb
     have hbo:=HBO.out.trans (hb.mono HBO.out.size)
     obtain ⟨bh,oh,rfl,hch⟩:=(HX6.out.below hbo).2.2.1 (by omega)
     have hcx:=hch k hlt
     rw [HXE.out] at hcx
     by_cases hd:d < N
     case neg =>
      obtain rfl:d=N:=by omega
      have hfb:fb=true:=by rcases hor with q | q;exact q;exact absurd hd0N (by omega)
      subst hfb
      have HBN:=Lib.hid hbo
      by_cases hk00:k=0
      · have f1:decide ((0:Int) < (k:Int))=false:=decide_eq_false (by omega)
        have f2:decide (0 < k)=false:=decide_eq_false (by omega)
        clear hor hb hbo hch hcx hk00
        go_upto_region 18 with (fail)
        go_quiet (fail)
        go_wp2_with fail
        go_roundw
        case rel=>exact ⟨k+1,by omega,by go_num,by first | exact HBN.out | exact below_drewN' HBN.out _⟩
        case measure=>simp [intOf];omega
      · have f1:decide ((0:Int) < (k:Int))=true:=decide_eq_true (by omega)
        have f2:decide (0 < k)=true:=decide_eq_true (by omega)
        have hcx1:=hch (k - 1) (by omega)
        have has:=HAS.out (k - 1) (by omega)
        rw [show k - 1+1=k by omega,HXE.out] at has
        obtain ⟨p,hp⟩:∃ p,p=H.getD (k - 1) 0:=⟨_,rfl⟩
        rw [← hp] at hcx1 has
        obtain ⟨j,hj⟩:∃ j,j=k - 1:=⟨_,rfl⟩
        rw [← hj] at hcx1
        have hwk:IntKind.i64.wrap ((k:Int) - 1)=(j:Int):=by rw [show (k:Int) - 1=(j:Int) by omega];exact IntWalk.i64_in _ (by omega)
        have f3:decide ((x:Int)≤p)=false:=decide_eq_false (by omega)
        have i1:(0:Int)≤(j:Int):=by omega
        have i2:(j:Int) < (M:Int):=by omega
        clear hor hb hbo hch hk00 hp hj has
        go_upto_region 18 with (fail)
        go_quiet (fail)
        go_wp2_with fail
        go_roundw
        case rel=>exact ⟨k+1,by omega,by go_num,by first | exact HBN.out | exact below_drewN' HBN.out _⟩
        case measure=>simp [intOf];omega
     case pos =>
      obtain ⟨⟨z0,z1,z2,-⟩,-,-,-⟩:=HK.out wr (HB6.out.trans (hbo.mono HB6.out.size))
      obtain ⟨bc,oc,rfl,hcert⟩:=(HC6.out.below hbo).2.2 (by omega)
      have hcd:=hcert d hd
      have hcxx:=hcert x hxN
      rw [HQ5.out] at hcxx
      have hfd:=(HCL.out wr hbo).2 d hd
      have hbd:=HBB.out d hd
      have HOR:=Lib.hid hor
      obtain ⟨f,hf⟩:∃ f,f=t.bef.getD d 0:=⟨_,rfl⟩
      rw [← hf] at hfd hbd
      have HFE:=Lib.hid hf
      have HF1:Hid (d=d0→0 < f):=Lib.hid (fun e=>by subst e;rw [hf,HQ.out.1];omega)
      have i3:(0:Int)≤(d:Int):=by omega
      have i4:(d:Int) < (N:Int):=by omega
      clear hch hor hb hf
      by_cases hf0:0 < f
      case neg =>
       have e1:decide (0 < f)=false:=decide_eq_false hf0
       clear hf0
       go_upto_region 16 with (fail)
       refine wp_region_light (by kernel_rfl) (fun lz fz wz=>Vals [(0,48,(.int .i64 (f))),(1,49,(.bool false)),(2,50,(.bool false)),(13,61,(.bool false)),(14,62,(.bool false)),(19,67,(.bool false)),(20,68,(.bool false)),(25,73,(.bool false)),(26,74,(.bool false)),(34,82,(.bool false)),(35,83,(.bool false)),(53,101,(.bool false)),(54,102,(.bool false)),(72,120,(.bool false))] lz fz∧Facts wr [] lz fz wz) 147 rfl [48,49,50,51,52,53,54,55,56,57,58,59,60,61,62,63,64,65,66,67,68,69,70,71,72,73,74,75,76,77,78,79,80,81,82,83,84,85,86,87,88,89,90,91,92,93,94,95,96,97,98,99,100,101,102,103,104,105,106,107,108,109,110,111,112,113,114,115,116,117,118,119,120] (by kernel_rfl) (by kernel_rfl) (by kernel_rfl) (fun f=>⟨Vals.nothing _ f,Facts.nothing _ _ f⟩) ?_ ?_
       · intro i hi
         rcases (by have:i < 73:=hi;omega:i=0∨i=1∨i=2∨i=3∨i=4∨i=5∨i=6∨i=7∨i=8∨i=9∨i=10∨i=11∨i=12∨i=13∨i=14∨i=15∨i=16∨i=17∨i=18∨i=19∨i=20∨i=21∨i=22∨i=23∨i=24∨i=25∨i=26∨i=27∨i=28∨i=29∨i=30∨i=31∨i=32∨i=33∨i=34∨i=35∨i=36∨i=37∨i=38∨i=39∨i=40∨i=41∨i=42∨i=43∨i=44∨i=45∨i=46∨i=47∨i=48∨i=49∨i=50∨i=51∨i=52∨i=53∨i=54∨i=55∨i=56∨i=57∨i=58∨i=59∨i=60∨i=61∨i=62∨i=63∨i=64∨i=65∨i=66∨i=67∨i=68∨i=69∨i=70∨i=71∨i=72) with rfl | rfl | rfl | rfl | rfl | rfl | rfl | rfl | rfl | rfl | rfl | rfl | rfl | rfl | rfl | rfl | rfl | rfl | rfl | rfl | rfl | rfl | rfl | rfl | rfl | rfl | rfl | rfl | rfl | rfl | rfl | rfl | rfl | rfl | rfl | rfl | rfl | rfl | rfl | rfl | rfl | rfl | rfl | rfl | rfl | rfl | rfl | rfl | rfl | rfl | rfl | rfl | rfl | rfl | rfl | rfl | rfl | rfl | rfl | rfl | rfl | rfl | rfl | rfl | rfl | rfl | rfl | rfl | rfl | rfl | rfl | rfl | rfl
         all_goals (clear hi;intro o ho lz fz w' A ⟨hv,hr⟩ hli ha hA K hK;obtain rfl:=Option.some.inj ho;clear ho)
         · have gg10:=so hA 10 _ rfl
           simp only [List.getD_cons_succ,List.getD_cons_zero] at gg10
           rw [if_pos (by rfl)]
           have hF:=hK _ w' ⟨hv.put 0 0 48 rfl rfl rfl,hr.nil⟩
           clear hv hr ha hK hA hli;go_simp;exact hF
         · have gg48:=sj hA 48 (hv.at 0 rfl (ha 0 (by decide)))
           rw [if_pos (by rfl)]
           have hF:=hK _ w' ⟨hv.put 1 1 49 rfl rfl rfl,hr.nil⟩
           clear hv hr ha hK hA hli;go_simp;exact hF
         · have gg49:=sj hA 49 (hv.at 1 rfl (ha 1 (by decide)))
           rw [if_pos (by rfl)]
           have hF:=hK _ w' ⟨hv.put 2 2 50 rfl rfl rfl,hr.nil⟩
           clear hv hr ha hK hA hli;go_simp;exact hF
         iterate 10
          · have g50:=si hA 50 (hv.at 2 rfl (ha 2 (by decide)))
            have gw:=slot_bool g50
            rw [if_neg (by simp [Region.wanted,yielded,gw])]
            exact hK undef w' ⟨hv.step _ _ _ (by simp),hr.step _ _ _ (Below.refl _ _) (by simp)⟩
         · have gg50:=sj hA 50 (hv.at 2 rfl (ha 2 (by decide)))
           rw [if_pos (by rfl)]
           have hF:=hK _ w' ⟨hv.put 3 13 61 rfl rfl rfl,hr.nil⟩
           clear hv hr ha hK hA hli;go_simp;exact hF
         · have gg61:=sj hA 61 (hv.at 3 rfl (ha 13 (by decide)))
           rw [if_pos (by rfl)]
           have hF:=hK _ w' ⟨hv.put 4 14 62 rfl rfl rfl,hr.nil⟩
           clear hv hr ha hK hA hli;go_simp;exact hF
         iterate 4
          · have g62:=si hA 62 (hv.at 4 rfl (ha 14 (by decide)))
            have gw:=slot_bool g62
            rw [if_neg (by simp [Region.wanted,yielded,gw])]
            exact hK undef w' ⟨hv.step _ _ _ (by simp),hr.step _ _ _ (Below.refl _ _) (by simp)⟩
         · have gg62:=sj hA 62 (hv.at 4 rfl (ha 14 (by decide)))
           rw [if_pos (by rfl)]
           have hF:=hK _ w' ⟨hv.put 5 19 67 rfl rfl rfl,hr.nil⟩
           clear hv hr ha hK hA hli;go_simp;exact hF
         · have gg67:=sj hA 67 (hv.at 5 rfl (ha 19 (by decide)))
           rw [if_pos (by rfl)]
           have hF:=hK _ w' ⟨hv.put 6 20 68 rfl rfl rfl,hr.nil⟩
           clear hv hr ha hK hA hli;go_simp;exact hF
         iterate 4
          · have g68:=si hA 68 (hv.at 6 rfl (ha 20 (by decide)))
            have gw:=slot_bool g68
            rw [if_neg (by simp [Region.wanted,yielded,gw])]
            exact hK undef w' ⟨hv.step _ _ _ (by simp),hr.step _ _ _ (Below.refl _ _) (by simp)⟩
         · have gg68:=sj hA 68 (hv.at 6 rfl (ha 20 (by decide)))
           rw [if_pos (by rfl)]
           have hF:=hK _ w' ⟨hv.put 7 25 73 rfl rfl rfl,hr.nil⟩
           clear hv hr ha hK hA hli;go_simp;exact hF
         · have gg73:=sj hA 73 (hv.at 7 rfl (ha 25 (by decide)))
           rw [if_pos (by rfl)]
           have hF:=hK _ w' ⟨hv.put 8 26 74 rfl rfl rfl,hr.nil⟩
           clear hv hr ha hK hA hli;go_simp;exact hF
         iterate 7
          · have g74:=si hA 74 (hv.at 8 rfl (ha 26 (by decide)))
            have gw:=slot_bool g74
            rw [if_neg (by simp [Region.wanted,yielded,gw])]
            exact hK undef w' ⟨hv.step _ _ _ (by simp),hr.step _ _ _ (Below.refl _ _) (by simp)⟩
         · have gg74:=sj hA 74 (hv.at 8 rfl (ha 26 (by decide)))
           rw [if_pos (by rfl)]
           have hF:=hK _ w' ⟨hv.put 9 34 82 rfl rfl rfl,hr.nil⟩
           clear hv hr ha hK hA hli;go_simp;exact hF
         · have gg82:=sj hA 82 (hv.at 9 rfl (ha 34 (by decide)))
           rw [if_pos (by rfl)]
           have hF:=hK _ w' ⟨hv.put 10 35 83 rfl rfl rfl,hr.nil⟩
           clear hv hr ha hK hA hli;go_simp;exact hF
         iterate 17
          · have g83:=si hA 83 (hv.at 10 rfl (ha 35 (by decide)))
            have gw:=slot_bool g83
            rw [if_neg (by simp [Region.wanted,yielded,gw])]
            exact hK undef w' ⟨hv.step _ _ _ (by simp),hr.step _ _ _ (Below.refl _ _) (by simp)⟩
         · have gg83:=sj hA 83 (hv.at 10 rfl (ha 35 (by decide)))
           rw [if_pos (by rfl)]
           have hF:=hK _ w' ⟨hv.put 11 53 101 rfl rfl rfl,hr.nil⟩
           clear hv hr ha hK hA hli;go_simp;exact hF
         · have gg101:=sj hA 101 (hv.at 11 rfl (ha 53 (by decide)))
           rw [if_pos (by rfl)]
           have hF:=hK _ w' ⟨hv.put 12 54 102 rfl rfl rfl,hr.nil⟩
           clear hv hr ha hK hA hli;go_simp;exact hF
         iterate 17
          · have g102:=si hA 102 (hv.at 12 rfl (ha 54 (by decide)))
            have gw:=slot_bool g102
            rw [if_neg (by simp [Region.wanted,yielded,gw])]
            exact hK undef w' ⟨hv.step _ _ _ (by simp),hr.step _ _ _ (Below.refl _ _) (by simp)⟩
         · have gg102:=sj hA 102 (hv.at 12 rfl (ha 54 (by decide)))
           rw [if_pos (by rfl)]
           have hF:=hK _ w' ⟨hv.put 13 72 120 rfl rfl rfl,hr.nil⟩
           clear hv hr ha hK hA hli;go_simp;exact hF
       intro lz fz w9 hall ⟨hv,hq⟩
       have h120:=hv.at 13 rfl (hall 72 (by decide))
       have hbR:=hq.1
       clear hv hq hall
       simp only [mixF,List.contains_cons,List.contains_nil]
       go_simp
       have HB9:=Lib.hid (HB2.out.trans (hbR.mono HB2.out.size))
       clear hbR
       go_wp2_with fail
       go_roundw
       case rel=>exact ⟨d+1,fb,by omega,by omega,by go_num,rfl,(by
        rcases HOR.out with q | q
        · exact .inl q
        · right
          have:d≠d0:=fun e=>by have:=HF1.out e;simp [this] at e1
          omega),by first | exact HB9.out | exact below_drewN' HB9.out _⟩
       case measure=>simp [intOf];omega
      case pos =>
       obtain ⟨c,hc⟩:=Int.eq_ofNat_of_zero_le (show 0≤f by omega)
       change f=(c:Int) at hc
       subst hc
       have hcN:c < N:=by omega
       have e1:decide ((0:Int) < (c:Int))=true:=decide_eq_true hf0
       have e1':decide (0 < c)=true:=decide_eq_true (by omega)
       have g1:=HCL.out wr hbo
       have hgc:=g1.2 c hcN
       have hvc:=g1.1 c hcN
       have hvd:=g1.1 d hd
       have hvx:=g1.1 x hxN
       have hcc:=hcert c hcN
       have hvb:=HVB.out x (by omega)
       obtain ⟨g,hg⟩:∃ g,g=t.bef.getD c 0:=⟨_,rfl⟩
       obtain ⟨xd,hxd⟩:∃ v,v=C.getD d false:=⟨_,rfl⟩
       obtain ⟨xc,hxc⟩:∃ v,v=C.getD c false:=⟨_,rfl⟩
       obtain ⟨vc,hvc2⟩:∃ v,v=vwAt t c:=⟨_,rfl⟩
       obtain ⟨vd,hvd2⟩:∃ v,v=vwAt t d:=⟨_,rfl⟩
       obtain ⟨vx,hvx2⟩:∃ v,v=vwAt t x:=⟨_,rfl⟩
       have HIF:Hid (d=d0→(g == (x:Int))=true∧xd=true∧xc=true∧(vc == vx+1)=true∧(vd == vx+2)=true):=Lib.hid (fun e=>by
        subst e
        have h1:=HQ.out
        have hcc0:c=c0:=by have:=h1.1;rw [← HFE.out] at this;omega
        subst hcc0
        exact ⟨by rw [hg,h1.2.1];simp,by rw [hxd];exact h1.2.2.2.2.2,by rw [hxc];exact h1.2.2.2.2.1,by rw [hvc2,hvx2,h1.2.2.1];simp,by rw [hvd2,hvx2,h1.2.2.2.1];simp⟩)
       rw [← hg] at hgc
       rw [← hxd] at hcd
       rw [← hxc] at hcc
       rw [← hvc2] at hvc
       rw [← hvd2] at hvd
       rw [← hvx2] at hvx hvb
       have hw1:IntKind.i64.wrap (vx+1)=vx+1:=IntWalk.i64_in _ (by omega)
       have hw2:IntKind.i64.wrap (vx+2)=vx+2:=IntWalk.i64_in _ (by omega)
       obtain ⟨y1,hy1⟩:∃ y,(g == (x:Int))=y:=⟨_,rfl⟩
       obtain ⟨y2,hy2⟩:∃ y,(vc == vx+1)=y:=⟨_,rfl⟩
       obtain ⟨y3,hy3⟩:∃ y,(vd == vx+2)=y:=⟨_,rfl⟩
       rw [hy1,hy2,hy3] at HIF
       have i7:(0:Int)≤(c:Int):=by omega
       have i8:(c:Int) < (N:Int):=by omega
       clear hg hxd hxc hvc2 hvd2 hvx2 hf0 g1 hcert hvb
       have HZZ:Hid (∀ W:World,Below wr.heap.size wr W→W.cell? ⟨Z,1,none⟩=some (.slice (some ⟨b,off,none⟩) N d2)∧W.cell? ⟨Z,2,none⟩=some (.slice (some ⟨b3',off3,none⟩) N d3)∧W.cell? ⟨b3',off3+c,none⟩=some (.int .i64 g)∧W.cell? ⟨bh,oh+k,none⟩=some (.int .i64 (x:Int))∧W.cell? ⟨bc,oc+d,none⟩=some (.bool xd)∧W.cell? ⟨bc,oc+c,none⟩=some (.bool xc)∧W.cell? ⟨bc,oc+x,none⟩=some (.bool true)∧W.cell? ⟨b,off+c*6+2,none⟩=some (.int .i64 vc)∧W.cell? ⟨b,off+x*6+2,none⟩=some (.int .i64 vx)∧W.cell? ⟨b,off+d*6+2,none⟩=some (.int .i64 vd)):=Lib.hid (fun W hb=>⟨keepC hb z1,keepC hb z2,keepC hb hgc,keepC hb hcx,keepC hb hcd,keepC hb hcc,keepC hb hcxx,keepC hb hvc,keepC hb hvx,keepC hb hvd⟩)
       clear z0 z1 hgc hcx hcd hcc hcxx hvc hvx hvd
       obtain ⟨q2,hq2⟩:∃ q,q=(y1 && xd):=⟨_,rfl⟩
       obtain ⟨q3,hq3⟩:∃ q,q=(q2 && xc):=⟨_,rfl⟩
       obtain ⟨q4,hq4⟩:∃ q,q=(q3 && y2):=⟨_,rfl⟩
       obtain ⟨q5,hq5⟩:∃ q,q=(q4 && y3):=⟨_,rfl⟩
       have HQF:Hid (d=d0→q5=true):=Lib.hid (fun e=>by obtain ⟨a1,a2,a3,a4,a5⟩:=HIF.out e;simp [hq5,hq4,hq3,hq2,a1,a2,a3,a4,a5])
       have HQ2:=Lib.hid hq2
       have HQ3:=Lib.hid hq3
       have HQ4:=Lib.hid hq4
       have HQ5b:=Lib.hid hq5
       clear hq2 hq3 hq4 hq5 HIF
       go_upto_region 16 with (fail)
       clear z2 hfd
       refine wp_region_light (by kernel_rfl) (fun lz fz wz=>Vals [(0,48,(.int .i64 (c:Int))),(1,49,(.bool true)),(2,50,(.bool true)),(3,51,(.pointer (some ⟨Z,2,none⟩))),(4,52,(.slice (some ⟨b3',off3,none⟩) N d3)),(5,53,(.int .i64 (c:Int))),(6,54,(.pointer (some ⟨b3',off3+c,none⟩))),(7,55,(.int .i64 (g))),(8,56,(.slice (some ⟨bh,oh,none⟩) M kx)),(9,57,(.int .i64 (k:Int))),(10,58,(.pointer (some ⟨bh,oh+k,none⟩))),(11,59,(.int .i64 (x:Int))),(12,60,(.bool y1)),(13,61,(.bool y1)),(14,62,(.bool y1)),(15,63,(bif y1 then .slice (some ⟨bc,oc,none⟩) N kc else undef)),(16,64,(bif y1 then .int .i64 (d:Int) else undef)),(17,65,(bif y1 then .pointer (some ⟨bc,oc+d,none⟩) else undef)),(18,66,(bif y1 then .bool xd else undef)),(19,67,(.bool q2)),(20,68,(.bool q2)),(21,69,(bif q2 then .slice (some ⟨bc,oc,none⟩) N kc else undef)),(22,70,(bif q2 then .int .i64 (c:Int) else undef)),(23,71,(bif q2 then .pointer (some ⟨bc,oc+c,none⟩) else undef)),(24,72,(bif q2 then .bool xc else undef)),(25,73,(.bool q3)),(26,74,(.bool q3)),(27,75,(bif q3 then .slice (some ⟨bc,oc,none⟩) N kc else undef)),(28,76,(bif q3 then .slice (some ⟨bh,oh,none⟩) M kx else undef)),(29,77,(bif q3 then .int .i64 (k:Int) else undef)),(30,78,(bif q3 then .pointer (some ⟨bh,oh+k,none⟩) else undef)),(31,79,(bif q3 then .int .i64 (x:Int) else undef)),(32,80,(bif q3 then .pointer (some ⟨bc,oc+x,none⟩) else undef)),(33,81,(bif q3 then .bool true else undef)),(34,82,(.bool q3)),(35,83,(.bool q3)),(36,84,(bif q3 then .pointer (some ⟨Z,1,none⟩) else undef)),(37,85,(bif q3 then .slice (some ⟨b,off,none⟩) N d2 else undef)),(38,86,(bif q3 then .int .i64 (c:Int) else undef)),(39,87,(bif q3 then .pointer (some ⟨b,off+c*6,none⟩) else undef)),(40,88,(bif q3 then .pointer (some ⟨b,off+c*6+2,none⟩) else undef)),(41,89,(bif q3 then .int .i64 (vc) else undef)),(42,90,(bif q3 then .pointer (some ⟨Z,1,none⟩) else undef)),(43,91,(bif q3 then .slice (some ⟨b,off,none⟩) N d2 else undef)),(44,92,(bif q3 then .slice (some ⟨bh,oh,none⟩) M kx else undef)),(45,93,(bif q3 then .int .i64 (k:Int) else undef)),(46,94,(bif q3 then .pointer (some ⟨bh,oh+k,none⟩) else undef)),(47,95,(bif q3 then .int .i64 (x:Int) else undef)),(48,96,(bif q3 then .pointer (some ⟨b,off+x*6,none⟩) else undef)),(49,97,(bif q3 then .pointer (some ⟨b,off+x*6+2,none⟩) else undef)),(50,98,(bif q3 then .int .i64 (vx) else undef)),(51,99,(bif q3 then .int .i64 (vx+1) else undef)),(52,100,(bif q3 then .bool y2 else undef)),(53,101,(.bool q4)),(54,102,(.bool q4)),(55,103,(bif q4 then .pointer (some ⟨Z,1,none⟩) else undef)),(56,104,(bif q4 then .slice (some ⟨b,off,none⟩) N d2 else undef)),(57,105,(bif q4 then .int .i64 (d:Int) else undef)),(58,106,(bif q4 then .pointer (some ⟨b,off+d*6,none⟩) else undef)),(59,107,(bif q4 then .pointer (some ⟨b,off+d*6+2,none⟩) else undef)),(60,108,(bif q4 then .int .i64 (vd) else undef)),(61,109,(bif q4 then .pointer (some ⟨Z,1,none⟩) else undef)),(62,110,(bif q4 then .slice (some ⟨b,off,none⟩) N d2 else undef)),(63,111,(bif q4 then .slice (some ⟨bh,oh,none⟩) M kx else undef)),(64,112,(bif q4 then .int .i64 (k:Int) else undef)),(65,113,(bif q4 then .pointer (some ⟨bh,oh+k,none⟩) else undef)),(66,114,(bif q4 then .int .i64 (x:Int) else undef)),(67,115,(bif q4 then .pointer (some ⟨b,off+x*6,none⟩) else undef)),(68,116,(bif q4 then .pointer (some ⟨b,off+x*6+2,none⟩) else undef)),(69,117,(bif q4 then .int .i64 (vx) else undef)),(70,118,(bif q4 then .int .i64 (vx+2) else undef)),(71,119,(bif q4 then .bool y3 else undef)),(72,120,(.bool q5))] lz fz∧Facts wr [] lz fz wz) 147 rfl [48,49,50,51,52,53,54,55,56,57,58,59,60,61,62,63,64,65,66,67,68,69,70,71,72,73,74,75,76,77,78,79,80,81,82,83,84,85,86,87,88,89,90,91,92,93,94,95,96,97,98,99,100,101,102,103,104,105,106,107,108,109,110,111,112,113,114,115,116,117,118,119,120] (by kernel_rfl) (by kernel_rfl) (by kernel_rfl) (fun f=>⟨Vals.nothing _ f,Facts.nothing _ _ f⟩) ?_ ?_
       · intro i hi
         rcases (by have:i < 73:=hi;omega:i=0∨i=1∨i=2∨i=3∨i=4∨i=5∨i=6∨i=7∨i=8∨i=9∨i=10∨i=11∨i=12∨i=13∨i=14∨i=15∨i=16∨i=17∨i=18∨i=19∨i=20∨i=21∨i=22∨i=23∨i=24∨i=25∨i=26∨i=27∨i=28∨i=29∨i=30∨i=31∨i=32∨i=33∨i=34∨i=35∨i=36∨i=37∨i=38∨i=39∨i=40∨i=41∨i=42∨i=43∨i=44∨i=45∨i=46∨i=47∨i=48∨i=49∨i=50∨i=51∨i=52∨i=53∨i=54∨i=55∨i=56∨i=57∨i=58∨i=59∨i=60∨i=61∨i=62∨i=63∨i=64∨i=65∨i=66∨i=67∨i=68∨i=69∨i=70∨i=71∨i=72) with rfl | rfl | rfl | rfl | rfl | rfl | rfl | rfl | rfl | rfl | rfl | rfl | rfl | rfl | rfl | rfl | rfl | rfl | rfl | rfl | rfl | rfl | rfl | rfl | rfl | rfl | rfl | rfl | rfl | rfl | rfl | rfl | rfl | rfl | rfl | rfl | rfl | rfl | rfl | rfl | rfl | rfl | rfl | rfl | rfl | rfl | rfl | rfl | rfl | rfl | rfl | rfl | rfl | rfl | rfl | rfl | rfl | rfl | rfl | rfl | rfl | rfl | rfl | rfl | rfl | rfl | rfl | rfl | rfl | rfl | rfl | rfl | rfl
         all_goals (clear hi;intro o ho lz fz w' A ⟨hv,hr⟩ hli ha hA K hK;obtain rfl:=Option.some.inj ho;clear ho)
         · have gg10:=so hA 10 _ rfl
           simp only [List.getD_cons_succ,List.getD_cons_zero] at gg10
           rw [if_pos (by rfl)]
           have hF:=hK _ w' ⟨hv.put 0 0 48 rfl rfl rfl,hr.nil⟩
           clear hv hr ha hK hA hli;go_simp;exact hF
         · have gg48:=sj hA 48 (hv.at 0 rfl (ha 0 (by decide)))
           rw [if_pos (by rfl)]
           have hF:=hK _ w' ⟨hv.put 1 1 49 rfl rfl rfl,hr.nil⟩
           clear hv hr ha hK hA hli;go_simp;exact hF
         · have gg49:=sj hA 49 (hv.at 1 rfl (ha 1 (by decide)))
           rw [if_pos (by rfl)]
           have hF:=hK _ w' ⟨hv.put 2 2 50 rfl rfl rfl,hr.nil⟩
           clear hv hr ha hK hA hli;go_simp;exact hF
         · have gg3:=so hA 3 _ rfl
           simp only [List.getD_cons_succ,List.getD_cons_zero] at gg3
           have g50:=si hA 50 (hv.at 2 rfl (ha 2 (by decide)))
           have gg50:=slot_get g50
           rw [if_pos (by simp [Region.wanted,yielded,slot_bool g50])]
           have hF:=hK _ w' ⟨hv.put 3 3 51 rfl rfl rfl,hr.nil⟩
           clear hv hr ha hK hA hli;go_simp;exact hF
         · have gg51:=sj hA 51 (hv.at 3 rfl (ha 3 (by decide)))
           have g50:=si hA 50 (hv.at 2 rfl (ha 2 (by decide)))
           have gg50:=slot_get g50
           rw [if_pos (by simp [Region.wanted,yielded,slot_bool g50])]
           have hz:=(HZZ.out w' hr.1).2.1
           have hF:=hK _ w' ⟨hv.put 4 4 52 rfl rfl rfl,hr.nil⟩
           clear hv hr ha hK hA hli;go_simp;exact hF
         · have gg10:=so hA 10 _ rfl
           simp only [List.getD_cons_succ,List.getD_cons_zero] at gg10
           have g50:=si hA 50 (hv.at 2 rfl (ha 2 (by decide)))
           have gg50:=slot_get g50
           rw [if_pos (by simp [Region.wanted,yielded,slot_bool g50])]
           have hF:=hK _ w' ⟨hv.put 5 5 53 rfl rfl rfl,hr.nil⟩
           clear hv hr ha hK hA hli;go_simp;exact hF
         · have gg52:=sj hA 52 (hv.at 4 rfl (ha 4 (by decide)))
           have gg53:=sj hA 53 (hv.at 5 rfl (ha 5 (by decide)))
           have g50:=si hA 50 (hv.at 2 rfl (ha 2 (by decide)))
           have gg50:=slot_get g50
           rw [if_pos (by simp [Region.wanted,yielded,slot_bool g50])]
           have hF:=hK _ w' ⟨hv.put 6 6 54 rfl rfl rfl,hr.nil⟩
           clear hv hr ha hK hA hli;go_simp;exact hF
         · have gg54:=sj hA 54 (hv.at 6 rfl (ha 6 (by decide)))
           have g50:=si hA 50 (hv.at 2 rfl (ha 2 (by decide)))
           have gg50:=slot_get g50
           rw [if_pos (by simp [Region.wanted,yielded,slot_bool g50])]
           have hz:=(HZZ.out w' hr.1).2.2.1
           have hF:=hK _ w' ⟨hv.put 7 7 55 rfl rfl rfl,hr.nil⟩
           clear hv hr ha hK hA hli;go_simp;exact hF
         · have gg5:=so hA 5 _ rfl
           simp only [List.getD_cons_succ,List.getD_cons_zero] at gg5
           have g50:=si hA 50 (hv.at 2 rfl (ha 2 (by decide)))
           have gg50:=slot_get g50
           rw [if_pos (by simp [Region.wanted,yielded,slot_bool g50])]
           have hF:=hK _ w' ⟨hv.put 8 8 56 rfl rfl rfl,hr.nil⟩
           clear hv hr ha hK hA hli;go_simp;exact hF
         · have gg7:=so hA 7 _ rfl
           simp only [List.getD_cons_succ,List.getD_cons_zero] at gg7
           have g50:=si hA 50 (hv.at 2 rfl (ha 2 (by decide)))
           have gg50:=slot_get g50
           rw [if_pos (by simp [Region.wanted,yielded,slot_bool g50])]
           have hF:=hK _ w' ⟨hv.put 9 9 57 rfl rfl rfl,hr.nil⟩
           clear hv hr ha hK hA hli;go_simp;exact hF
         · have gg56:=sj hA 56 (hv.at 8 rfl (ha 8 (by decide)))
           have gg57:=sj hA 57 (hv.at 9 rfl (ha 9 (by decide)))
           have g50:=si hA 50 (hv.at 2 rfl (ha 2 (by decide)))
           have gg50:=slot_get g50
           rw [if_pos (by simp [Region.wanted,yielded,slot_bool g50])]
           have hF:=hK _ w' ⟨hv.put 10 10 58 rfl rfl rfl,hr.nil⟩
           clear hv hr ha hK hA hli;go_simp;exact hF
         · have gg58:=sj hA 58 (hv.at 10 rfl (ha 10 (by decide)))
           have g50:=si hA 50 (hv.at 2 rfl (ha 2 (by decide)))
           have gg50:=slot_get g50
           rw [if_pos (by simp [Region.wanted,yielded,slot_bool g50])]
           have hz:=(HZZ.out w' hr.1).2.2.2.1
           have hF:=hK _ w' ⟨hv.put 11 11 59 rfl rfl rfl,hr.nil⟩
           clear hv hr ha hK hA hli;go_simp;exact hF
         · have gg55:=sj hA 55 (hv.at 7 rfl (ha 7 (by decide)))
           have gg59:=sj hA 59 (hv.at 11 rfl (ha 11 (by decide)))
           have g50:=si hA 50 (hv.at 2 rfl (ha 2 (by decide)))
           have gg50:=slot_get g50
           rw [if_pos (by simp [Region.wanted,yielded,slot_bool g50])]
           have hF:=hK _ w' ⟨hv.put 12 12 60 rfl rfl rfl,hr.nil⟩
           clear hv hr ha hK hA hli;go_simp;exact hF
         · have gg50:=sj hA 50 (hv.at 2 rfl (ha 2 (by decide)))
           have gg60:=sj hA 60 (hv.at 12 rfl (ha 12 (by decide)))
           rw [if_pos (by rfl)]
           have hF:=hK _ w' ⟨hv.put 13 13 61 rfl rfl rfl,hr.nil⟩
           clear hv hr ha hK hA hli;go_simp;exact hF
         · have gg61:=sj hA 61 (hv.at 13 rfl (ha 13 (by decide)))
           rw [if_pos (by rfl)]
           have hF:=hK _ w' ⟨hv.put 14 14 62 rfl rfl rfl,hr.nil⟩
           clear hv hr ha hK hA hli;go_simp;exact hF
         · cases y1 with
           | false =>
            have g62:=si hA 62 (hv.at 14 rfl (ha 14 (by decide)))
            have gw:=slot_bool g62
            rw [if_neg (by simp [Region.wanted,yielded,gw])]
            exact hK undef w' ⟨hv.step _ _ _ (by simp),hr.step _ _ _ (Below.refl _ _) (by simp)⟩
           | true =>
            have g6:=slot_out hA 6 _ (by decide) (by decide) rfl
            simp only [List.getD_cons_succ,List.getD_cons_zero] at g6
            have g62:=si hA 62 (hv.at 14 rfl (ha 14 (by decide)))
            have gg6:=slot_get g6
            have gg62:=slot_get g62
            rw [if_pos (by simp [Region.wanted,yielded,slot_bool g62])]
            have hF:=hK (.slice (some ⟨bc,oc,none⟩) N kc) w' ⟨hv.step 15 63 _ (by simp),hr.step 15 63 _ (Below.refl _ _) (by simp)⟩
            clear hv hr ha hK hA hli
            go_simp
            exact hF
         · cases y1 with
           | false =>
            have g62:=si hA 62 (hv.at 14 rfl (ha 14 (by decide)))
            have gw:=slot_bool g62
            rw [if_neg (by simp [Region.wanted,yielded,gw])]
            exact hK undef w' ⟨hv.step _ _ _ (by simp),hr.step _ _ _ (Below.refl _ _) (by simp)⟩
           | true =>
            have g9:=slot_out hA 9 _ (by decide) (by decide) rfl
            simp only [List.getD_cons_succ,List.getD_cons_zero] at g9
            have g62:=si hA 62 (hv.at 14 rfl (ha 14 (by decide)))
            have gg9:=slot_get g9
            have gg62:=slot_get g62
            rw [if_pos (by simp [Region.wanted,yielded,slot_bool g62])]
            have hF:=hK (.int .i64 (d:Int)) w' ⟨hv.step 16 64 _ (by simp),hr.step 16 64 _ (Below.refl _ _) (by simp)⟩
            clear hv hr ha hK hA hli
            go_simp
            exact hF
         · cases y1 with
           | false =>
            have g62:=si hA 62 (hv.at 14 rfl (ha 14 (by decide)))
            have gw:=slot_bool g62
            rw [if_neg (by simp [Region.wanted,yielded,gw])]
            exact hK undef w' ⟨hv.step _ _ _ (by simp),hr.step _ _ _ (Below.refl _ _) (by simp)⟩
           | true =>
            have g63:=si hA 63 (hv.at 15 rfl (ha 15 (by decide)))
            simp only [cond_true,cond_false] at g63
            have g64:=si hA 64 (hv.at 16 rfl (ha 16 (by decide)))
            simp only [cond_true,cond_false] at g64
            have g62:=si hA 62 (hv.at 14 rfl (ha 14 (by decide)))
            have gg63:=slot_get g63
            have gg64:=slot_get g64
            have gg62:=slot_get g62
            rw [if_pos (by simp [Region.wanted,yielded,slot_bool g62])]
            have hF:=hK (.pointer (some ⟨bc,oc+d,none⟩)) w' ⟨hv.step 17 65 _ (by simp),hr.step 17 65 _ (Below.refl _ _) (by simp)⟩
            clear hv hr ha hK hA hli
            go_simp
            exact hF
         · cases y1 with
           | false =>
            have g62:=si hA 62 (hv.at 14 rfl (ha 14 (by decide)))
            have gw:=slot_bool g62
            rw [if_neg (by simp [Region.wanted,yielded,gw])]
            exact hK undef w' ⟨hv.step _ _ _ (by simp),hr.step _ _ _ (Below.refl _ _) (by simp)⟩
           | true =>
            have g65:=si hA 65 (hv.at 17 rfl (ha 17 (by decide)))
            simp only [cond_true,cond_false] at g65
            have g62:=si hA 62 (hv.at 14 rfl (ha 14 (by decide)))
            have gg65:=slot_get g65
            have gg62:=slot_get g62
            rw [if_pos (by simp [Region.wanted,yielded,slot_bool g62])]
            have hz:=(HZZ.out w' hr.1).2.2.2.2.1
            have hF:=hK (.bool xd) w' ⟨hv.step 18 66 _ (by simp),hr.step 18 66 _ (Below.refl _ _) (by simp)⟩
            clear hv hr ha hK hA hli
            go_simp
            exact hF
         · have hq:=HQ2.out
           clear HQ2
           cases y1 with
           | false =>
            obtain rfl:q2=false:=by simpa using hq
            clear hq
            have g62:=si hA 62 (hv.at 14 rfl (ha 14 (by decide)))
            have g66:=si hA 66 (hv.at 18 rfl (ha 18 (by decide)))
            simp only [cond_true,cond_false] at g66
            have gg62:=slot_get g62
            have gg66:=slot_get g66
            rw [if_pos (by rfl)]
            have hF:=hK _ w' ⟨hv.put 19 19 67 rfl rfl rfl,hr.nil⟩
            clear hv hr ha hK hA hli;go_simp;exact hF
           | true =>
            obtain rfl:q2=xd:=by simpa using hq
            clear hq
            have g62:=si hA 62 (hv.at 14 rfl (ha 14 (by decide)))
            have g66:=si hA 66 (hv.at 18 rfl (ha 18 (by decide)))
            simp only [cond_true,cond_false] at g66
            have gg62:=slot_get g62
            have gg66:=slot_get g66
            rw [if_pos (by rfl)]
            have hF:=hK _ w' ⟨hv.put 19 19 67 rfl rfl rfl,hr.nil⟩
            clear hv hr ha hK hA hli;go_simp;exact hF
         · have gg67:=sj hA 67 (hv.at 19 rfl (ha 19 (by decide)))
           rw [if_pos (by rfl)]
           have hF:=hK _ w' ⟨hv.put 20 20 68 rfl rfl rfl,hr.nil⟩
           clear hv hr ha hK hA hli;go_simp;exact hF
         · cases q2 with
           | false =>
            have g68:=si hA 68 (hv.at 20 rfl (ha 20 (by decide)))
            have gw:=slot_bool g68
            rw [if_neg (by simp [Region.wanted,yielded,gw])]
            exact hK undef w' ⟨hv.step _ _ _ (by simp),hr.step _ _ _ (Below.refl _ _) (by simp)⟩
           | true =>
            have g6:=slot_out hA 6 _ (by decide) (by decide) rfl
            simp only [List.getD_cons_succ,List.getD_cons_zero] at g6
            have g68:=si hA 68 (hv.at 20 rfl (ha 20 (by decide)))
            have gg6:=slot_get g6
            have gg68:=slot_get g68
            rw [if_pos (by simp [Region.wanted,yielded,slot_bool g68])]
            have hF:=hK (.slice (some ⟨bc,oc,none⟩) N kc) w' ⟨hv.step 21 69 _ (by simp),hr.step 21 69 _ (Below.refl _ _) (by simp)⟩
            clear hv hr ha hK hA hli
            go_simp
            exact hF
         · cases q2 with
           | false =>
            have g68:=si hA 68 (hv.at 20 rfl (ha 20 (by decide)))
            have gw:=slot_bool g68
            rw [if_neg (by simp [Region.wanted,yielded,gw])]
            exact hK undef w' ⟨hv.step _ _ _ (by simp),hr.step _ _ _ (Below.refl _ _) (by simp)⟩
           | true =>
            have g10:=slot_out hA 10 _ (by decide) (by decide) rfl
            simp only [List.getD_cons_succ,List.getD_cons_zero] at g10
            have g68:=si hA 68 (hv.at 20 rfl (ha 20 (by decide)))
            have gg10:=slot_get g10
            have gg68:=slot_get g68
            rw [if_pos (by simp [Region.wanted,yielded,slot_bool g68])]
            have hF:=hK (.int .i64 (c:Int)) w' ⟨hv.step 22 70 _ (by simp),hr.step 22 70 _ (Below.refl _ _) (by simp)⟩
            clear hv hr ha hK hA hli
            go_simp
            exact hF
         · cases q2 with
           | false =>
            have g68:=si hA 68 (hv.at 20 rfl (ha 20 (by decide)))
            have gw:=slot_bool g68
            rw [if_neg (by simp [Region.wanted,yielded,gw])]
            exact hK undef w' ⟨hv.step _ _ _ (by simp),hr.step _ _ _ (Below.refl _ _) (by simp)⟩
           | true =>
            have g69:=si hA 69 (hv.at 21 rfl (ha 21 (by decide)))
            simp only [cond_true,cond_false] at g69
            have g70:=si hA 70 (hv.at 22 rfl (ha 22 (by decide)))
            simp only [cond_true,cond_false] at g70
            have g68:=si hA 68 (hv.at 20 rfl (ha 20 (by decide)))
            have gg69:=slot_get g69
            have gg70:=slot_get g70
            have gg68:=slot_get g68
            rw [if_pos (by simp [Region.wanted,yielded,slot_bool g68])]
            have hF:=hK (.pointer (some ⟨bc,oc+c,none⟩)) w' ⟨hv.step 23 71 _ (by simp),hr.step 23 71 _ (Below.refl _ _) (by simp)⟩
            clear hv hr ha hK hA hli
            go_simp
            exact hF
         · cases q2 with
           | false =>
            have g68:=si hA 68 (hv.at 20 rfl (ha 20 (by decide)))
            have gw:=slot_bool g68
            rw [if_neg (by simp [Region.wanted,yielded,gw])]
            exact hK undef w' ⟨hv.step _ _ _ (by simp),hr.step _ _ _ (Below.refl _ _) (by simp)⟩
           | true =>
            have g71:=si hA 71 (hv.at 23 rfl (ha 23 (by decide)))
            simp only [cond_true,cond_false] at g71
            have g68:=si hA 68 (hv.at 20 rfl (ha 20 (by decide)))
            have gg71:=slot_get g71
            have gg68:=slot_get g68
            rw [if_pos (by simp [Region.wanted,yielded,slot_bool g68])]
            have hz:=(HZZ.out w' hr.1).2.2.2.2.2.1
            have hF:=hK (.bool xc) w' ⟨hv.step 24 72 _ (by simp),hr.step 24 72 _ (Below.refl _ _) (by simp)⟩
            clear hv hr ha hK hA hli
            go_simp
            exact hF
         · have hq:=HQ3.out
           clear HQ3
           cases q2 with
           | false =>
            obtain rfl:q3=false:=by simpa using hq
            clear hq
            have g68:=si hA 68 (hv.at 20 rfl (ha 20 (by decide)))
            have g72:=si hA 72 (hv.at 24 rfl (ha 24 (by decide)))
            simp only [cond_true,cond_false] at g72
            have gg68:=slot_get g68
            have gg72:=slot_get g72
            rw [if_pos (by rfl)]
            have hF:=hK _ w' ⟨hv.put 25 25 73 rfl rfl rfl,hr.nil⟩
            clear hv hr ha hK hA hli;go_simp;exact hF
           | true =>
            obtain rfl:q3=xc:=by simpa using hq
            clear hq
            have g68:=si hA 68 (hv.at 20 rfl (ha 20 (by decide)))
            have g72:=si hA 72 (hv.at 24 rfl (ha 24 (by decide)))
            simp only [cond_true,cond_false] at g72
            have gg68:=slot_get g68
            have gg72:=slot_get g72
            rw [if_pos (by rfl)]
            have hF:=hK _ w' ⟨hv.put 25 25 73 rfl rfl rfl,hr.nil⟩
            clear hv hr ha hK hA hli;go_simp;exact hF
         · have gg73:=sj hA 73 (hv.at 25 rfl (ha 25 (by decide)))
           rw [if_pos (by rfl)]
           have hF:=hK _ w' ⟨hv.put 26 26 74 rfl rfl rfl,hr.nil⟩
           clear hv hr ha hK hA hli;go_simp;exact hF
         · cases q3 with
           | false =>
            have g74:=si hA 74 (hv.at 26 rfl (ha 26 (by decide)))
            have gw:=slot_bool g74
            rw [if_neg (by simp [Region.wanted,yielded,gw])]
            exact hK undef w' ⟨hv.step _ _ _ (by simp),hr.step _ _ _ (Below.refl _ _) (by simp)⟩
           | true =>
            have g6:=slot_out hA 6 _ (by decide) (by decide) rfl
            simp only [List.getD_cons_succ,List.getD_cons_zero] at g6
            have g74:=si hA 74 (hv.at 26 rfl (ha 26 (by decide)))
            have gg6:=slot_get g6
            have gg74:=slot_get g74
            rw [if_pos (by simp [Region.wanted,yielded,slot_bool g74])]
            have hF:=hK (.slice (some ⟨bc,oc,none⟩) N kc) w' ⟨hv.step 27 75 _ (by simp),hr.step 27 75 _ (Below.refl _ _) (by simp)⟩
            clear hv hr ha hK hA hli
            go_simp
            exact hF
         · cases q3 with
           | false =>
            have g74:=si hA 74 (hv.at 26 rfl (ha 26 (by decide)))
            have gw:=slot_bool g74
            rw [if_neg (by simp [Region.wanted,yielded,gw])]
            exact hK undef w' ⟨hv.step _ _ _ (by simp),hr.step _ _ _ (Below.refl _ _) (by simp)⟩
           | true =>
            have g5:=slot_out hA 5 _ (by decide) (by decide) rfl
            simp only [List.getD_cons_succ,List.getD_cons_zero] at g5
            have g74:=si hA 74 (hv.at 26 rfl (ha 26 (by decide)))
            have gg5:=slot_get g5
            have gg74:=slot_get g74
            rw [if_pos (by simp [Region.wanted,yielded,slot_bool g74])]
            have hF:=hK (.slice (some ⟨bh,oh,none⟩) M kx) w' ⟨hv.step 28 76 _ (by simp),hr.step 28 76 _ (Below.refl _ _) (by simp)⟩
            clear hv hr ha hK hA hli
            go_simp
            exact hF
         · cases q3 with
           | false =>
            have g74:=si hA 74 (hv.at 26 rfl (ha 26 (by decide)))
            have gw:=slot_bool g74
            rw [if_neg (by simp [Region.wanted,yielded,gw])]
            exact hK undef w' ⟨hv.step _ _ _ (by simp),hr.step _ _ _ (Below.refl _ _) (by simp)⟩
           | true =>
            have g7:=slot_out hA 7 _ (by decide) (by decide) rfl
            simp only [List.getD_cons_succ,List.getD_cons_zero] at g7
            have g74:=si hA 74 (hv.at 26 rfl (ha 26 (by decide)))
            have gg7:=slot_get g7
            have gg74:=slot_get g74
            rw [if_pos (by simp [Region.wanted,yielded,slot_bool g74])]
            have hF:=hK (.int .i64 (k:Int)) w' ⟨hv.step 29 77 _ (by simp),hr.step 29 77 _ (Below.refl _ _) (by simp)⟩
            clear hv hr ha hK hA hli
            go_simp
            exact hF
         · cases q3 with
           | false =>
            have g74:=si hA 74 (hv.at 26 rfl (ha 26 (by decide)))
            have gw:=slot_bool g74
            rw [if_neg (by simp [Region.wanted,yielded,gw])]
            exact hK undef w' ⟨hv.step _ _ _ (by simp),hr.step _ _ _ (Below.refl _ _) (by simp)⟩
           | true =>
            have g76:=si hA 76 (hv.at 28 rfl (ha 28 (by decide)))
            simp only [cond_true,cond_false] at g76
            have g77:=si hA 77 (hv.at 29 rfl (ha 29 (by decide)))
            simp only [cond_true,cond_false] at g77
            have g74:=si hA 74 (hv.at 26 rfl (ha 26 (by decide)))
            have gg76:=slot_get g76
            have gg77:=slot_get g77
            have gg74:=slot_get g74
            rw [if_pos (by simp [Region.wanted,yielded,slot_bool g74])]
            have hF:=hK (.pointer (some ⟨bh,oh+k,none⟩)) w' ⟨hv.step 30 78 _ (by simp),hr.step 30 78 _ (Below.refl _ _) (by simp)⟩
            clear hv hr ha hK hA hli
            go_simp
            exact hF
         · cases q3 with
           | false =>
            have g74:=si hA 74 (hv.at 26 rfl (ha 26 (by decide)))
            have gw:=slot_bool g74
            rw [if_neg (by simp [Region.wanted,yielded,gw])]
            exact hK undef w' ⟨hv.step _ _ _ (by simp),hr.step _ _ _ (Below.refl _ _) (by simp)⟩
           | true =>
            have g78:=si hA 78 (hv.at 30 rfl (ha 30 (by decide)))
            simp only [cond_true,cond_false] at g78
            have g74:=si hA 74 (hv.at 26 rfl (ha 26 (by decide)))
            have gg78:=slot_get g78
            have gg74:=slot_get g74
            rw [if_pos (by simp [Region.wanted,yielded,slot_bool g74])]
            have hz:=(HZZ.out w' hr.1).2.2.2.1
            have hF:=hK (.int .i64 (x:Int)) w' ⟨hv.step 31 79 _ (by simp),hr.step 31 79 _ (Below.refl _ _) (by simp)⟩
            clear hv hr ha hK hA hli
            go_simp
            exact hF
         · cases q3 with
           | false =>
            have g74:=si hA 74 (hv.at 26 rfl (ha 26 (by decide)))
            have gw:=slot_bool g74
            rw [if_neg (by simp [Region.wanted,yielded,gw])]
            exact hK undef w' ⟨hv.step _ _ _ (by simp),hr.step _ _ _ (Below.refl _ _) (by simp)⟩
           | true =>
            have g75:=si hA 75 (hv.at 27 rfl (ha 27 (by decide)))
            simp only [cond_true,cond_false] at g75
            have g79:=si hA 79 (hv.at 31 rfl (ha 31 (by decide)))
            simp only [cond_true,cond_false] at g79
            have g74:=si hA 74 (hv.at 26 rfl (ha 26 (by decide)))
            have gg75:=slot_get g75
            have gg79:=slot_get g79
            have gg74:=slot_get g74
            rw [if_pos (by simp [Region.wanted,yielded,slot_bool g74])]
            have hF:=hK (.pointer (some ⟨bc,oc+x,none⟩)) w' ⟨hv.step 32 80 _ (by simp),hr.step 32 80 _ (Below.refl _ _) (by simp)⟩
            clear hv hr ha hK hA hli
            go_simp
            exact hF
         · cases q3 with
           | false =>
            have g74:=si hA 74 (hv.at 26 rfl (ha 26 (by decide)))
            have gw:=slot_bool g74
            rw [if_neg (by simp [Region.wanted,yielded,gw])]
            exact hK undef w' ⟨hv.step _ _ _ (by simp),hr.step _ _ _ (Below.refl _ _) (by simp)⟩
           | true =>
            have g80:=si hA 80 (hv.at 32 rfl (ha 32 (by decide)))
            simp only [cond_true,cond_false] at g80
            have g74:=si hA 74 (hv.at 26 rfl (ha 26 (by decide)))
            have gg80:=slot_get g80
            have gg74:=slot_get g74
            rw [if_pos (by simp [Region.wanted,yielded,slot_bool g74])]
            have hz:=(HZZ.out w' hr.1).2.2.2.2.2.2.1
            have hF:=hK (.bool true) w' ⟨hv.step 33 81 _ (by simp),hr.step 33 81 _ (Below.refl _ _) (by simp)⟩
            clear hv hr ha hK hA hli
            go_simp
            exact hF
         · cases q3 with
           | false =>
            have g74:=si hA 74 (hv.at 26 rfl (ha 26 (by decide)))
            have g81:=si hA 81 (hv.at 33 rfl (ha 33 (by decide)))
            simp only [cond_true,cond_false] at g81
            have gg74:=slot_get g74
            have gg81:=slot_get g81
            rw [if_pos (by rfl)]
            have hF:=hK (.bool false) w' ⟨hv.step 34 82 _ (by simp),hr.step 34 82 _ (Below.refl _ _) (by simp)⟩
            clear hv hr ha hK hA hli
            go_simp
            exact hF
           | true =>
            have g74:=si hA 74 (hv.at 26 rfl (ha 26 (by decide)))
            have g81:=si hA 81 (hv.at 33 rfl (ha 33 (by decide)))
            simp only [cond_true,cond_false] at g81
            have gg74:=slot_get g74
            have gg81:=slot_get g81
            rw [if_pos (by rfl)]
            have hF:=hK (.bool true) w' ⟨hv.step 34 82 _ (by simp),hr.step 34 82 _ (Below.refl _ _) (by simp)⟩
            clear hv hr ha hK hA hli
            go_simp
            exact hF
         · have gg82:=sj hA 82 (hv.at 34 rfl (ha 34 (by decide)))
           rw [if_pos (by rfl)]
           have hF:=hK _ w' ⟨hv.put 35 35 83 rfl rfl rfl,hr.nil⟩
           clear hv hr ha hK hA hli;go_simp;exact hF
         · cases q3 with
           | false =>
            have g83:=si hA 83 (hv.at 35 rfl (ha 35 (by decide)))
            have gw:=slot_bool g83
            rw [if_neg (by simp [Region.wanted,yielded,gw])]
            exact hK undef w' ⟨hv.step _ _ _ (by simp),hr.step _ _ _ (Below.refl _ _) (by simp)⟩
           | true =>
            have g3:=slot_out hA 3 _ (by decide) (by decide) rfl
            simp only [List.getD_cons_succ,List.getD_cons_zero] at g3
            have g83:=si hA 83 (hv.at 35 rfl (ha 35 (by decide)))
            have gg3:=slot_get g3
            have gg83:=slot_get g83
            rw [if_pos (by simp [Region.wanted,yielded,slot_bool g83])]
            have hF:=hK (.pointer (some ⟨Z,1,none⟩)) w' ⟨hv.step 36 84 _ (by simp),hr.step 36 84 _ (Below.refl _ _) (by simp)⟩
            clear hv hr ha hK hA hli
            go_simp
            exact hF
         · cases q3 with
           | false =>
            have g83:=si hA 83 (hv.at 35 rfl (ha 35 (by decide)))
            have gw:=slot_bool g83
            rw [if_neg (by simp [Region.wanted,yielded,gw])]
            exact hK undef w' ⟨hv.step _ _ _ (by simp),hr.step _ _ _ (Below.refl _ _) (by simp)⟩
           | true =>
            have g84:=si hA 84 (hv.at 36 rfl (ha 36 (by decide)))
            simp only [cond_true,cond_false] at g84
            have g83:=si hA 83 (hv.at 35 rfl (ha 35 (by decide)))
            have gg84:=slot_get g84
            have gg83:=slot_get g83
            rw [if_pos (by simp [Region.wanted,yielded,slot_bool g83])]
            have hz:=(HZZ.out w' hr.1).1
            have hF:=hK (.slice (some ⟨b,off,none⟩) N d2) w' ⟨hv.step 37 85 _ (by simp),hr.step 37 85 _ (Below.refl _ _) (by simp)⟩
            clear hv hr ha hK hA hli
            go_simp
            exact hF
         · cases q3 with
           | false =>
            have g83:=si hA 83 (hv.at 35 rfl (ha 35 (by decide)))
            have gw:=slot_bool g83
            rw [if_neg (by simp [Region.wanted,yielded,gw])]
            exact hK undef w' ⟨hv.step _ _ _ (by simp),hr.step _ _ _ (Below.refl _ _) (by simp)⟩
           | true =>
            have g10:=slot_out hA 10 _ (by decide) (by decide) rfl
            simp only [List.getD_cons_succ,List.getD_cons_zero] at g10
            have g83:=si hA 83 (hv.at 35 rfl (ha 35 (by decide)))
            have gg10:=slot_get g10
            have gg83:=slot_get g83
            rw [if_pos (by simp [Region.wanted,yielded,slot_bool g83])]
            have hF:=hK (.int .i64 (c:Int)) w' ⟨hv.step 38 86 _ (by simp),hr.step 38 86 _ (Below.refl _ _) (by simp)⟩
            clear hv hr ha hK hA hli
            go_simp
            exact hF
         · cases q3 with
           | false =>
            have g83:=si hA 83 (hv.at 35 rfl (ha 35 (by decide)))
            have gw:=slot_bool g83
            rw [if_neg (by simp [Region.wanted,yielded,gw])]
            exact hK undef w' ⟨hv.step _ _ _ (by simp),hr.step _ _ _ (Below.refl _ _) (by simp)⟩
           | true =>
            have g85:=si hA 85 (hv.at 37 rfl (ha 37 (by decide)))
            simp only [cond_true,cond_false] at g85
            have g86:=si hA 86 (hv.at 38 rfl (ha 38 (by decide)))
            simp only [cond_true,cond_false] at g86
            have g83:=si hA 83 (hv.at 35 rfl (ha 35 (by decide)))
            have gg85:=slot_get g85
            have gg86:=slot_get g86
            have gg83:=slot_get g83
            rw [if_pos (by simp [Region.wanted,yielded,slot_bool g83])]
            have hF:=hK (.pointer (some ⟨b,off+c*6,none⟩)) w' ⟨hv.step 39 87 _ (by simp),hr.step 39 87 _ (Below.refl _ _) (by simp)⟩
            clear hv hr ha hK hA hli
            go_simp
            exact hF
         · cases q3 with
           | false =>
            have g83:=si hA 83 (hv.at 35 rfl (ha 35 (by decide)))
            have gw:=slot_bool g83
            rw [if_neg (by simp [Region.wanted,yielded,gw])]
            exact hK undef w' ⟨hv.step _ _ _ (by simp),hr.step _ _ _ (Below.refl _ _) (by simp)⟩
           | true =>
            have g87:=si hA 87 (hv.at 39 rfl (ha 39 (by decide)))
            simp only [cond_true,cond_false] at g87
            have g83:=si hA 83 (hv.at 35 rfl (ha 35 (by decide)))
            have gg87:=slot_get g87
            have gg83:=slot_get g83
            rw [if_pos (by simp [Region.wanted,yielded,slot_bool g83])]
            have hF:=hK (.pointer (some ⟨b,off+c*6+2,none⟩)) w' ⟨hv.step 40 88 _ (by simp),hr.step 40 88 _ (Below.refl _ _) (by simp)⟩
            clear hv hr ha hK hA hli
            go_simp
            exact hF
         · cases q3 with
           | false =>
            have g83:=si hA 83 (hv.at 35 rfl (ha 35 (by decide)))
            have gw:=slot_bool g83
            rw [if_neg (by simp [Region.wanted,yielded,gw])]
            exact hK undef w' ⟨hv.step _ _ _ (by simp),hr.step _ _ _ (Below.refl _ _) (by simp)⟩
           | true =>
            have g88:=si hA 88 (hv.at 40 rfl (ha 40 (by decide)))
            simp only [cond_true,cond_false] at g88
            have g83:=si hA 83 (hv.at 35 rfl (ha 35 (by decide)))
            have gg88:=slot_get g88
            have gg83:=slot_get g83
            rw [if_pos (by simp [Region.wanted,yielded,slot_bool g83])]
            have hz:=(HZZ.out w' hr.1).2.2.2.2.2.2.2.1
            have hF:=hK (.int .i64 (vc)) w' ⟨hv.step 41 89 _ (by simp),hr.step 41 89 _ (Below.refl _ _) (by simp)⟩
            clear hv hr ha hK hA hli
            go_simp
            exact hF
         · cases q3 with
           | false =>
            have g83:=si hA 83 (hv.at 35 rfl (ha 35 (by decide)))
            have gw:=slot_bool g83
            rw [if_neg (by simp [Region.wanted,yielded,gw])]
            exact hK undef w' ⟨hv.step _ _ _ (by simp),hr.step _ _ _ (Below.refl _ _) (by simp)⟩
           | true =>
            have g3:=slot_out hA 3 _ (by decide) (by decide) rfl
            simp only [List.getD_cons_succ,List.getD_cons_zero] at g3
            have g83:=si hA 83 (hv.at 35 rfl (ha 35 (by decide)))
            have gg3:=slot_get g3
            have gg83:=slot_get g83
            rw [if_pos (by simp [Region.wanted,yielded,slot_bool g83])]
            have hF:=hK (.pointer (some ⟨Z,1,none⟩)) w' ⟨hv.step 42 90 _ (by simp),hr.step 42 90 _ (Below.refl _ _) (by simp)⟩
            clear hv hr ha hK hA hli
            go_simp
            exact hF
         · cases q3 with
           | false =>
            have g83:=si hA 83 (hv.at 35 rfl (ha 35 (by decide)))
            have gw:=slot_bool g83
            rw [if_neg (by simp [Region.wanted,yielded,gw])]
            exact hK undef w' ⟨hv.step _ _ _ (by simp),hr.step _ _ _ (Below.refl _ _) (by simp)⟩
           | true =>
            have g90:=si hA 90 (hv.at 42 rfl (ha 42 (by decide)))
            simp only [cond_true,cond_false] at g90
            have g83:=si hA 83 (hv.at 35 rfl (ha 35 (by decide)))
            have gg90:=slot_get g90
            have gg83:=slot_get g83
            rw [if_pos (by simp [Region.wanted,yielded,slot_bool g83])]
            have hz:=(HZZ.out w' hr.1).1
            have hF:=hK (.slice (some ⟨b,off,none⟩) N d2) w' ⟨hv.step 43 91 _ (by simp),hr.step 43 91 _ (Below.refl _ _) (by simp)⟩
            clear hv hr ha hK hA hli
            go_simp
            exact hF
         · cases q3 with
           | false =>
            have g83:=si hA 83 (hv.at 35 rfl (ha 35 (by decide)))
            have gw:=slot_bool g83
            rw [if_neg (by simp [Region.wanted,yielded,gw])]
            exact hK undef w' ⟨hv.step _ _ _ (by simp),hr.step _ _ _ (Below.refl _ _) (by simp)⟩
           | true =>
            have g5:=slot_out hA 5 _ (by decide) (by decide) rfl
            simp only [List.getD_cons_succ,List.getD_cons_zero] at g5
            have g83:=si hA 83 (hv.at 35 rfl (ha 35 (by decide)))
            have gg5:=slot_get g5
            have gg83:=slot_get g83
            rw [if_pos (by simp [Region.wanted,yielded,slot_bool g83])]
            have hF:=hK (.slice (some ⟨bh,oh,none⟩) M kx) w' ⟨hv.step 44 92 _ (by simp),hr.step 44 92 _ (Below.refl _ _) (by simp)⟩
            clear hv hr ha hK hA hli
            go_simp
            exact hF
         · cases q3 with
           | false =>
            have g83:=si hA 83 (hv.at 35 rfl (ha 35 (by decide)))
            have gw:=slot_bool g83
            rw [if_neg (by simp [Region.wanted,yielded,gw])]
            exact hK undef w' ⟨hv.step _ _ _ (by simp),hr.step _ _ _ (Below.refl _ _) (by simp)⟩
           | true =>
            have g7:=slot_out hA 7 _ (by decide) (by decide) rfl
            simp only [List.getD_cons_succ,List.getD_cons_zero] at g7
            have g83:=si hA 83 (hv.at 35 rfl (ha 35 (by decide)))
            have gg7:=slot_get g7
            have gg83:=slot_get g83
            rw [if_pos (by simp [Region.wanted,yielded,slot_bool g83])]
            have hF:=hK (.int .i64 (k:Int)) w' ⟨hv.step 45 93 _ (by simp),hr.step 45 93 _ (Below.refl _ _) (by simp)⟩
            clear hv hr ha hK hA hli
            go_simp
            exact hF
         · cases q3 with
           | false =>
            have g83:=si hA 83 (hv.at 35 rfl (ha 35 (by decide)))
            have gw:=slot_bool g83
            rw [if_neg (by simp [Region.wanted,yielded,gw])]
            exact hK undef w' ⟨hv.step _ _ _ (by simp),hr.step _ _ _ (Below.refl _ _) (by simp)⟩
           | true =>
            have g92:=si hA 92 (hv.at 44 rfl (ha 44 (by decide)))
            simp only [cond_true,cond_false] at g92
            have g93:=si hA 93 (hv.at 45 rfl (ha 45 (by decide)))
            simp only [cond_true,cond_false] at g93
            have g83:=si hA 83 (hv.at 35 rfl (ha 35 (by decide)))
            have gg92:=slot_get g92
            have gg93:=slot_get g93
            have gg83:=slot_get g83
            rw [if_pos (by simp [Region.wanted,yielded,slot_bool g83])]
            have hF:=hK (.pointer (some ⟨bh,oh+k,none⟩)) w' ⟨hv.step 46 94 _ (by simp),hr.step 46 94 _ (Below.refl _ _) (by simp)⟩
            clear hv hr ha hK hA hli
            go_simp
            exact hF
         · cases q3 with
           | false =>
            have g83:=si hA 83 (hv.at 35 rfl (ha 35 (by decide)))
            have gw:=slot_bool g83
            rw [if_neg (by simp [Region.wanted,yielded,gw])]
            exact hK undef w' ⟨hv.step _ _ _ (by simp),hr.step _ _ _ (Below.refl _ _) (by simp)⟩
           | true =>
            have g94:=si hA 94 (hv.at 46 rfl (ha 46 (by decide)))
            simp only [cond_true,cond_false] at g94
            have g83:=si hA 83 (hv.at 35 rfl (ha 35 (by decide)))
            have gg94:=slot_get g94
            have gg83:=slot_get g83
            rw [if_pos (by simp [Region.wanted,yielded,slot_bool g83])]
            have hz:=(HZZ.out w' hr.1).2.2.2.1
            have hF:=hK (.int .i64 (x:Int)) w' ⟨hv.step 47 95 _ (by simp),hr.step 47 95 _ (Below.refl _ _) (by simp)⟩
            clear hv hr ha hK hA hli
            go_simp
            exact hF
         · cases q3 with
           | false =>
            have g83:=si hA 83 (hv.at 35 rfl (ha 35 (by decide)))
            have gw:=slot_bool g83
            rw [if_neg (by simp [Region.wanted,yielded,gw])]
            exact hK undef w' ⟨hv.step _ _ _ (by simp),hr.step _ _ _ (Below.refl _ _) (by simp)⟩
           | true =>
            have g91:=si hA 91 (hv.at 43 rfl (ha 43 (by decide)))
            simp only [cond_true,cond_false] at g91
            have g95:=si hA 95 (hv.at 47 rfl (ha 47 (by decide)))
            simp only [cond_true,cond_false] at g95
            have g83:=si hA 83 (hv.at 35 rfl (ha 35 (by decide)))
            have gg91:=slot_get g91
            have gg95:=slot_get g95
            have gg83:=slot_get g83
            rw [if_pos (by simp [Region.wanted,yielded,slot_bool g83])]
            have hF:=hK (.pointer (some ⟨b,off+x*6,none⟩)) w' ⟨hv.step 48 96 _ (by simp),hr.step 48 96 _ (Below.refl _ _) (by simp)⟩
            clear hv hr ha hK hA hli
            go_simp
            exact hF
         · cases q3 with
           | false =>
            have g83:=si hA 83 (hv.at 35 rfl (ha 35 (by decide)))
            have gw:=slot_bool g83
            rw [if_neg (by simp [Region.wanted,yielded,gw])]
            exact hK undef w' ⟨hv.step _ _ _ (by simp),hr.step _ _ _ (Below.refl _ _) (by simp)⟩
           | true =>
            have g96:=si hA 96 (hv.at 48 rfl (ha 48 (by decide)))
            simp only [cond_true,cond_false] at g96
            have g83:=si hA 83 (hv.at 35 rfl (ha 35 (by decide)))
            have gg96:=slot_get g96
            have gg83:=slot_get g83
            rw [if_pos (by simp [Region.wanted,yielded,slot_bool g83])]
            have hF:=hK (.pointer (some ⟨b,off+x*6+2,none⟩)) w' ⟨hv.step 49 97 _ (by simp),hr.step 49 97 _ (Below.refl _ _) (by simp)⟩
            clear hv hr ha hK hA hli
            go_simp
            exact hF
         · cases q3 with
           | false =>
            have g83:=si hA 83 (hv.at 35 rfl (ha 35 (by decide)))
            have gw:=slot_bool g83
            rw [if_neg (by simp [Region.wanted,yielded,gw])]
            exact hK undef w' ⟨hv.step _ _ _ (by simp),hr.step _ _ _ (Below.refl _ _) (by simp)⟩
           | true =>
            have g97:=si hA 97 (hv.at 49 rfl (ha 49 (by decide)))
            simp only [cond_true,cond_false] at g97
            have g83:=si hA 83 (hv.at 35 rfl (ha 35 (by decide)))
            have gg97:=slot_get g97
            have gg83:=slot_get g83
            rw [if_pos (by simp [Region.wanted,yielded,slot_bool g83])]
            have hz:=(HZZ.out w' hr.1).2.2.2.2.2.2.2.2.1
            have hF:=hK (.int .i64 (vx)) w' ⟨hv.step 50 98 _ (by simp),hr.step 50 98 _ (Below.refl _ _) (by simp)⟩
            clear hv hr ha hK hA hli
            go_simp
            exact hF
         · cases q3 with
           | false =>
            have g83:=si hA 83 (hv.at 35 rfl (ha 35 (by decide)))
            have gw:=slot_bool g83
            rw [if_neg (by simp [Region.wanted,yielded,gw])]
            exact hK undef w' ⟨hv.step _ _ _ (by simp),hr.step _ _ _ (Below.refl _ _) (by simp)⟩
           | true =>
            have g98:=si hA 98 (hv.at 50 rfl (ha 50 (by decide)))
            simp only [cond_true,cond_false] at g98
            have g83:=si hA 83 (hv.at 35 rfl (ha 35 (by decide)))
            have gg98:=slot_get g98
            have gg83:=slot_get g83
            rw [if_pos (by simp [Region.wanted,yielded,slot_bool g83])]
            have hF:=hK (.int .i64 (vx+1)) w' ⟨hv.step 51 99 _ (by simp),hr.step 51 99 _ (Below.refl _ _) (by simp)⟩
            clear hv hr ha hK hA hli
            go_simp
            exact hF
         · cases q3 with
           | false =>
            have g83:=si hA 83 (hv.at 35 rfl (ha 35 (by decide)))
            have gw:=slot_bool g83
            rw [if_neg (by simp [Region.wanted,yielded,gw])]
            exact hK undef w' ⟨hv.step _ _ _ (by simp),hr.step _ _ _ (Below.refl _ _) (by simp)⟩
           | true =>
            have g89:=si hA 89 (hv.at 41 rfl (ha 41 (by decide)))
            simp only [cond_true,cond_false] at g89
            have g99:=si hA 99 (hv.at 51 rfl (ha 51 (by decide)))
            simp only [cond_true,cond_false] at g99
            have g83:=si hA 83 (hv.at 35 rfl (ha 35 (by decide)))
            have gg89:=slot_get g89
            have gg99:=slot_get g99
            have gg83:=slot_get g83
            rw [if_pos (by simp [Region.wanted,yielded,slot_bool g83])]
            have hF:=hK (.bool y2) w' ⟨hv.step 52 100 _ (by simp),hr.step 52 100 _ (Below.refl _ _) (by simp)⟩
            clear hv hr ha hK hA hli
            go_simp
            exact hF
         · have hq:=HQ4.out
           clear HQ4
           cases q3 with
           | false =>
            obtain rfl:q4=false:=by simpa using hq
            clear hq
            have g83:=si hA 83 (hv.at 35 rfl (ha 35 (by decide)))
            have g100:=si hA 100 (hv.at 52 rfl (ha 52 (by decide)))
            simp only [cond_true,cond_false] at g100
            have gg83:=slot_get g83
            have gg100:=slot_get g100
            rw [if_pos (by rfl)]
            have hF:=hK _ w' ⟨hv.put 53 53 101 rfl rfl rfl,hr.nil⟩
            clear hv hr ha hK hA hli;go_simp;exact hF
           | true =>
            obtain rfl:q4=y2:=by simpa using hq
            clear hq
            have g83:=si hA 83 (hv.at 35 rfl (ha 35 (by decide)))
            have g100:=si hA 100 (hv.at 52 rfl (ha 52 (by decide)))
            simp only [cond_true,cond_false] at g100
            have gg83:=slot_get g83
            have gg100:=slot_get g100
            rw [if_pos (by rfl)]
            have hF:=hK _ w' ⟨hv.put 53 53 101 rfl rfl rfl,hr.nil⟩
            clear hv hr ha hK hA hli;go_simp;exact hF
         · have gg101:=sj hA 101 (hv.at 53 rfl (ha 53 (by decide)))
           rw [if_pos (by rfl)]
           have hF:=hK _ w' ⟨hv.put 54 54 102 rfl rfl rfl,hr.nil⟩
           clear hv hr ha hK hA hli;go_simp;exact hF
         · cases q4 with
           | false =>
            have g102:=si hA 102 (hv.at 54 rfl (ha 54 (by decide)))
            have gw:=slot_bool g102
            rw [if_neg (by simp [Region.wanted,yielded,gw])]
            exact hK undef w' ⟨hv.step _ _ _ (by simp),hr.step _ _ _ (Below.refl _ _) (by simp)⟩
           | true =>
            have g3:=slot_out hA 3 _ (by decide) (by decide) rfl
            simp only [List.getD_cons_succ,List.getD_cons_zero] at g3
            have g102:=si hA 102 (hv.at 54 rfl (ha 54 (by decide)))
            have gg3:=slot_get g3
            have gg102:=slot_get g102
            rw [if_pos (by simp [Region.wanted,yielded,slot_bool g102])]
            have hF:=hK (.pointer (some ⟨Z,1,none⟩)) w' ⟨hv.step 55 103 _ (by simp),hr.step 55 103 _ (Below.refl _ _) (by simp)⟩
            clear hv hr ha hK hA hli
            go_simp
            exact hF
         · cases q4 with
           | false =>
            have g102:=si hA 102 (hv.at 54 rfl (ha 54 (by decide)))
            have gw:=slot_bool g102
            rw [if_neg (by simp [Region.wanted,yielded,gw])]
            exact hK undef w' ⟨hv.step _ _ _ (by simp),hr.step _ _ _ (Below.refl _ _) (by simp)⟩
           | true =>
            have g103:=si hA 103 (hv.at 55 rfl (ha 55 (by decide)))
            simp only [cond_true,cond_false] at g103
            have g102:=si hA 102 (hv.at 54 rfl (ha 54 (by decide)))
            have gg103:=slot_get g103
            have gg102:=slot_get g102
            rw [if_pos (by simp [Region.wanted,yielded,slot_bool g102])]
            have hz:=(HZZ.out w' hr.1).1
            have hF:=hK (.slice (some ⟨b,off,none⟩) N d2) w' ⟨hv.step 56 104 _ (by simp),hr.step 56 104 _ (Below.refl _ _) (by simp)⟩
            clear hv hr ha hK hA hli
            go_simp
            exact hF
         · cases q4 with
           | false =>
            have g102:=si hA 102 (hv.at 54 rfl (ha 54 (by decide)))
            have gw:=slot_bool g102
            rw [if_neg (by simp [Region.wanted,yielded,gw])]
            exact hK undef w' ⟨hv.step _ _ _ (by simp),hr.step _ _ _ (Below.refl _ _) (by simp)⟩
           | true =>
            have g9:=slot_out hA 9 _ (by decide) (by decide) rfl
            simp only [List.getD_cons_succ,List.getD_cons_zero] at g9
            have g102:=si hA 102 (hv.at 54 rfl (ha 54 (by decide)))
            have gg9:=slot_get g9
            have gg102:=slot_get g102
            rw [if_pos (by simp [Region.wanted,yielded,slot_bool g102])]
            have hF:=hK (.int .i64 (d:Int)) w' ⟨hv.step 57 105 _ (by simp),hr.step 57 105 _ (Below.refl _ _) (by simp)⟩
            clear hv hr ha hK hA hli
            go_simp
            exact hF
         · cases q4 with
           | false =>
            have g102:=si hA 102 (hv.at 54 rfl (ha 54 (by decide)))
            have gw:=slot_bool g102
            rw [if_neg (by simp [Region.wanted,yielded,gw])]
            exact hK undef w' ⟨hv.step _ _ _ (by simp),hr.step _ _ _ (Below.refl _ _) (by simp)⟩
           | true =>
            have g104:=si hA 104 (hv.at 56 rfl (ha 56 (by decide)))
            simp only [cond_true,cond_false] at g104
            have g105:=si hA 105 (hv.at 57 rfl (ha 57 (by decide)))
            simp only [cond_true,cond_false] at g105
            have g102:=si hA 102 (hv.at 54 rfl (ha 54 (by decide)))
            have gg104:=slot_get g104
            have gg105:=slot_get g105
            have gg102:=slot_get g102
            rw [if_pos (by simp [Region.wanted,yielded,slot_bool g102])]
            have hF:=hK (.pointer (some ⟨b,off+d*6,none⟩)) w' ⟨hv.step 58 106 _ (by simp),hr.step 58 106 _ (Below.refl _ _) (by simp)⟩
            clear hv hr ha hK hA hli
            go_simp
            exact hF
         · cases q4 with
           | false =>
            have g102:=si hA 102 (hv.at 54 rfl (ha 54 (by decide)))
            have gw:=slot_bool g102
            rw [if_neg (by simp [Region.wanted,yielded,gw])]
            exact hK undef w' ⟨hv.step _ _ _ (by simp),hr.step _ _ _ (Below.refl _ _) (by simp)⟩
           | true =>
            have g106:=si hA 106 (hv.at 58 rfl (ha 58 (by decide)))
            simp only [cond_true,cond_false] at g106
            have g102:=si hA 102 (hv.at 54 rfl (ha 54 (by decide)))
            have gg106:=slot_get g106
            have gg102:=slot_get g102
            rw [if_pos (by simp [Region.wanted,yielded,slot_bool g102])]
            have hF:=hK (.pointer (some ⟨b,off+d*6+2,none⟩)) w' ⟨hv.step 59 107 _ (by simp),hr.step 59 107 _ (Below.refl _ _) (by simp)⟩
            clear hv hr ha hK hA hli
            go_simp
            exact hF
         · cases q4 with
           | false =>
            have g102:=si hA 102 (hv.at 54 rfl (ha 54 (by decide)))
            have gw:=slot_bool g102
            rw [if_neg (by simp [Region.wanted,yielded,gw])]
            exact hK undef w' ⟨hv.step _ _ _ (by simp),hr.step _ _ _ (Below.refl _ _) (by simp)⟩
           | true =>
            have g107:=si hA 107 (hv.at 59 rfl (ha 59 (by decide)))
            simp only [cond_true,cond_false] at g107
            have g102:=si hA 102 (hv.at 54 rfl (ha 54 (by decide)))
            have gg107:=slot_get g107
            have gg102:=slot_get g102
            rw [if_pos (by simp [Region.wanted,yielded,slot_bool g102])]
            have hz:=(HZZ.out w' hr.1).2.2.2.2.2.2.2.2.2
            have hF:=hK (.int .i64 (vd)) w' ⟨hv.step 60 108 _ (by simp),hr.step 60 108 _ (Below.refl _ _) (by simp)⟩
            clear hv hr ha hK hA hli
            go_simp
            exact hF
         · cases q4 with
           | false =>
            have g102:=si hA 102 (hv.at 54 rfl (ha 54 (by decide)))
            have gw:=slot_bool g102
            rw [if_neg (by simp [Region.wanted,yielded,gw])]
            exact hK undef w' ⟨hv.step _ _ _ (by simp),hr.step _ _ _ (Below.refl _ _) (by simp)⟩
           | true =>
            have g3:=slot_out hA 3 _ (by decide) (by decide) rfl
            simp only [List.getD_cons_succ,List.getD_cons_zero] at g3
            have g102:=si hA 102 (hv.at 54 rfl (ha 54 (by decide)))
            have gg3:=slot_get g3
            have gg102:=slot_get g102
            rw [if_pos (by simp [Region.wanted,yielded,slot_bool g102])]
            have hF:=hK (.pointer (some ⟨Z,1,none⟩)) w' ⟨hv.step 61 109 _ (by simp),hr.step 61 109 _ (Below.refl _ _) (by simp)⟩
            clear hv hr ha hK hA hli
            go_simp
            exact hF
         · cases q4 with
           | false =>
            have g102:=si hA 102 (hv.at 54 rfl (ha 54 (by decide)))
            have gw:=slot_bool g102
            rw [if_neg (by simp [Region.wanted,yielded,gw])]
            exact hK undef w' ⟨hv.step _ _ _ (by simp),hr.step _ _ _ (Below.refl _ _) (by simp)⟩
           | true =>
            have g109:=si hA 109 (hv.at 61 rfl (ha 61 (by decide)))
            simp only [cond_true,cond_false] at g109
            have g102:=si hA 102 (hv.at 54 rfl (ha 54 (by decide)))
            have gg109:=slot_get g109
            have gg102:=slot_get g102
            rw [if_pos (by simp [Region.wanted,yielded,slot_bool g102])]
            have hz:=(HZZ.out w' hr.1).1
            have hF:=hK (.slice (some ⟨b,off,none⟩) N d2) w' ⟨hv.step 62 110 _ (by simp),hr.step 62 110 _ (Below.refl _ _) (by simp)⟩
            clear hv hr ha hK hA hli
            go_simp
            exact hF
         · cases q4 with
           | false =>
            have g102:=si hA 102 (hv.at 54 rfl (ha 54 (by decide)))
            have gw:=slot_bool g102
            rw [if_neg (by simp [Region.wanted,yielded,gw])]
            exact hK undef w' ⟨hv.step _ _ _ (by simp),hr.step _ _ _ (Below.refl _ _) (by simp)⟩
           | true =>
            have g5:=slot_out hA 5 _ (by decide) (by decide) rfl
            simp only [List.getD_cons_succ,List.getD_cons_zero] at g5
            have g102:=si hA 102 (hv.at 54 rfl (ha 54 (by decide)))
            have gg5:=slot_get g5
            have gg102:=slot_get g102
            rw [if_pos (by simp [Region.wanted,yielded,slot_bool g102])]
            have hF:=hK (.slice (some ⟨bh,oh,none⟩) M kx) w' ⟨hv.step 63 111 _ (by simp),hr.step 63 111 _ (Below.refl _ _) (by simp)⟩
            clear hv hr ha hK hA hli
            go_simp
            exact hF
         · cases q4 with
           | false =>
            have g102:=si hA 102 (hv.at 54 rfl (ha 54 (by decide)))
            have gw:=slot_bool g102
            rw [if_neg (by simp [Region.wanted,yielded,gw])]
            exact hK undef w' ⟨hv.step _ _ _ (by simp),hr.step _ _ _ (Below.refl _ _) (by simp)⟩
           | true =>
            have g7:=slot_out hA 7 _ (by decide) (by decide) rfl
            simp only [List.getD_cons_succ,List.getD_cons_zero] at g7
            have g102:=si hA 102 (hv.at 54 rfl (ha 54 (by decide)))
            have gg7:=slot_get g7
            have gg102:=slot_get g102
            rw [if_pos (by simp [Region.wanted,yielded,slot_bool g102])]
            have hF:=hK (.int .i64 (k:Int)) w' ⟨hv.step 64 112 _ (by simp),hr.step 64 112 _ (Below.refl _ _) (by simp)⟩
            clear hv hr ha hK hA hli
            go_simp
            exact hF
         · cases q4 with
           | false =>
            have g102:=si hA 102 (hv.at 54 rfl (ha 54 (by decide)))
            have gw:=slot_bool g102
            rw [if_neg (by simp [Region.wanted,yielded,gw])]
            exact hK undef w' ⟨hv.step _ _ _ (by simp),hr.step _ _ _ (Below.refl _ _) (by simp)⟩
           | true =>
            have g111:=si hA 111 (hv.at 63 rfl (ha 63 (by decide)))
            simp only [cond_true,cond_false] at g111
            have g112:=si hA 112 (hv.at 64 rfl (ha 64 (by decide)))
            simp only [cond_true,cond_false] at g112
            have g102:=si hA 102 (hv.at 54 rfl (ha 54 (by decide)))
            have gg111:=slot_get g111
            have gg112:=slot_get g112
            have gg102:=slot_get g102
            rw [if_pos (by simp [Region.wanted,yielded,slot_bool g102])]
            have hF:=hK (.pointer (some ⟨bh,oh+k,none⟩)) w' ⟨hv.step 65 113 _ (by simp),hr.step 65 113 _ (Below.refl _ _) (by simp)⟩
            clear hv hr ha hK hA hli
            go_simp
            exact hF
         · cases q4 with
           | false =>
            have g102:=si hA 102 (hv.at 54 rfl (ha 54 (by decide)))
            have gw:=slot_bool g102
            rw [if_neg (by simp [Region.wanted,yielded,gw])]
            exact hK undef w' ⟨hv.step _ _ _ (by simp),hr.step _ _ _ (Below.refl _ _) (by simp)⟩
           | true =>
            have g113:=si hA 113 (hv.at 65 rfl (ha 65 (by decide)))
            simp only [cond_true,cond_false] at g113
            have g102:=si hA 102 (hv.at 54 rfl (ha 54 (by decide)))
            have gg113:=slot_get g113
            have gg102:=slot_get g102
            rw [if_pos (by simp [Region.wanted,yielded,slot_bool g102])]
            have hz:=(HZZ.out w' hr.1).2.2.2.1
            have hF:=hK (.int .i64 (x:Int)) w' ⟨hv.step 66 114 _ (by simp),hr.step 66 114 _ (Below.refl _ _) (by simp)⟩
            clear hv hr ha hK hA hli
            go_simp
            exact hF
         · cases q4 with
           | false =>
            have g102:=si hA 102 (hv.at 54 rfl (ha 54 (by decide)))
            have gw:=slot_bool g102
            rw [if_neg (by simp [Region.wanted,yielded,gw])]
            exact hK undef w' ⟨hv.step _ _ _ (by simp),hr.step _ _ _ (Below.refl _ _) (by simp)⟩
           | true =>
            have g110:=si hA 110 (hv.at 62 rfl (ha 62 (by decide)))
            simp only [cond_true,cond_false] at g110
            have g114:=si hA 114 (hv.at 66 rfl (ha 66 (by decide)))
            simp only [cond_true,cond_false] at g114
            have g102:=si hA 102 (hv.at 54 rfl (ha 54 (by decide)))
            have gg110:=slot_get g110
            have gg114:=slot_get g114
            have gg102:=slot_get g102
            rw [if_pos (by simp [Region.wanted,yielded,slot_bool g102])]
            have hF:=hK (.pointer (some ⟨b,off+x*6,none⟩)) w' ⟨hv.step 67 115 _ (by simp),hr.step 67 115 _ (Below.refl _ _) (by simp)⟩
            clear hv hr ha hK hA hli
            go_simp
            exact hF
         · cases q4 with
           | false =>
            have g102:=si hA 102 (hv.at 54 rfl (ha 54 (by decide)))
            have gw:=slot_bool g102
            rw [if_neg (by simp [Region.wanted,yielded,gw])]
            exact hK undef w' ⟨hv.step _ _ _ (by simp),hr.step _ _ _ (Below.refl _ _) (by simp)⟩
           | true =>
            have g115:=si hA 115 (hv.at 67 rfl (ha 67 (by decide)))
            simp only [cond_true,cond_false] at g115
            have g102:=si hA 102 (hv.at 54 rfl (ha 54 (by decide)))
            have gg115:=slot_get g115
            have gg102:=slot_get g102
            rw [if_pos (by simp [Region.wanted,yielded,slot_bool g102])]
            have hF:=hK (.pointer (some ⟨b,off+x*6+2,none⟩)) w' ⟨hv.step 68 116 _ (by simp),hr.step 68 116 _ (Below.refl _ _) (by simp)⟩
            clear hv hr ha hK hA hli
            go_simp
            exact hF
         · cases q4 with
           | false =>
            have g102:=si hA 102 (hv.at 54 rfl (ha 54 (by decide)))
            have gw:=slot_bool g102
            rw [if_neg (by simp [Region.wanted,yielded,gw])]
            exact hK undef w' ⟨hv.step _ _ _ (by simp),hr.step _ _ _ (Below.refl _ _) (by simp)⟩
           | true =>
            have g116:=si hA 116 (hv.at 68 rfl (ha 68 (by decide)))
            simp only [cond_true,cond_false] at g116
            have g102:=si hA 102 (hv.at 54 rfl (ha 54 (by decide)))
            have gg116:=slot_get g116
            have gg102:=slot_get g102
            rw [if_pos (by simp [Region.wanted,yielded,slot_bool g102])]
            have hz:=(HZZ.out w' hr.1).2.2.2.2.2.2.2.2.1
            have hF:=hK (.int .i64 (vx)) w' ⟨hv.step 69 117 _ (by simp),hr.step 69 117 _ (Below.refl _ _) (by simp)⟩
            clear hv hr ha hK hA hli
            go_simp
            exact hF
         · cases q4 with
           | false =>
            have g102:=si hA 102 (hv.at 54 rfl (ha 54 (by decide)))
            have gw:=slot_bool g102
            rw [if_neg (by simp [Region.wanted,yielded,gw])]
            exact hK undef w' ⟨hv.step _ _ _ (by simp),hr.step _ _ _ (Below.refl _ _) (by simp)⟩
           | true =>
            have g117:=si hA 117 (hv.at 69 rfl (ha 69 (by decide)))
            simp only [cond_true,cond_false] at g117
            have g102:=si hA 102 (hv.at 54 rfl (ha 54 (by decide)))
            have gg117:=slot_get g117
            have gg102:=slot_get g102
            rw [if_pos (by simp [Region.wanted,yielded,slot_bool g102])]
            have hF:=hK (.int .i64 (vx+2)) w' ⟨hv.step 70 118 _ (by simp),hr.step 70 118 _ (Below.refl _ _) (by simp)⟩
            clear hv hr ha hK hA hli
            go_simp
            exact hF
         · cases q4 with
           | false =>
            have g102:=si hA 102 (hv.at 54 rfl (ha 54 (by decide)))
            have gw:=slot_bool g102
            rw [if_neg (by simp [Region.wanted,yielded,gw])]
            exact hK undef w' ⟨hv.step _ _ _ (by simp),hr.step _ _ _ (Below.refl _ _) (by simp)⟩
           | true =>
            have g108:=si hA 108 (hv.at 60 rfl (ha 60 (by decide)))
            simp only [cond_true,cond_false] at g108
            have g118:=si hA 118 (hv.at 70 rfl (ha 70 (by decide)))
            simp only [cond_true,cond_false] at g118
            have g102:=si hA 102 (hv.at 54 rfl (ha 54 (by decide)))
            have gg108:=slot_get g108
            have gg118:=slot_get g118
            have gg102:=slot_get g102
            rw [if_pos (by simp [Region.wanted,yielded,slot_bool g102])]
            have hF:=hK (.bool y3) w' ⟨hv.step 71 119 _ (by simp),hr.step 71 119 _ (Below.refl _ _) (by simp)⟩
            clear hv hr ha hK hA hli
            go_simp
            exact hF
         · have hq:=HQ5b.out
           clear HQ5b
           cases q4 with
           | false =>
            obtain rfl:q5=false:=by simpa using hq
            clear hq
            have g102:=si hA 102 (hv.at 54 rfl (ha 54 (by decide)))
            have g119:=si hA 119 (hv.at 71 rfl (ha 71 (by decide)))
            simp only [cond_true,cond_false] at g119
            have gg102:=slot_get g102
            have gg119:=slot_get g119
            rw [if_pos (by rfl)]
            have hF:=hK _ w' ⟨hv.put 72 72 120 rfl rfl rfl,hr.nil⟩
            clear hv hr ha hK hA hli;go_simp;exact hF
           | true =>
            obtain rfl:q5=y3:=by simpa using hq
            clear hq
            have g102:=si hA 102 (hv.at 54 rfl (ha 54 (by decide)))
            have g119:=si hA 119 (hv.at 71 rfl (ha 71 (by decide)))
            simp only [cond_true,cond_false] at g119
            have gg102:=slot_get g102
            have gg119:=slot_get g119
            rw [if_pos (by rfl)]
            have hF:=hK _ w' ⟨hv.put 72 72 120 rfl rfl rfl,hr.nil⟩
            clear hv hr ha hK hA hli;go_simp;exact hF
       intro lz fz w9 hall ⟨hv,hq⟩
       have h120:=hv.at 72 rfl (hall 72 (by decide))
       have hbR:=hq.1
       clear hv hq hall
       simp only [mixF,List.contains_cons,List.contains_nil]
       go_simp
       have HB9:=Lib.hid (HB2.out.trans (hbR.mono HB2.out.size))
       clear hbR HZZ HQ2 HQ3 HQ4 HQ5b
       cases q5 with
       | false =>
        go_wp2_with fail
        go_roundw
        case rel=>exact ⟨d+1,fb,by omega,by omega,by go_num,rfl,(by
         rcases HOR.out with q | q
         · exact .inl q
         · right
           have:d≠d0:=fun e=>by cases HQF.out e
           omega),by first | exact HB9.out | exact below_drewN' HB9.out _⟩
        case measure=>simp [intOf];omega
       | true =>
        go_wp2_with fail
        go_roundw
        case rel=>exact ⟨d+1,true,by omega,by omega,by go_num,rfl,.inl rfl,by first | exact HB9.out | exact below_drewN' HB9.out _⟩
        case measure=>simp [intOf];omega
end Go.Proofs.YtpnjgmgmakmgeaaGreat

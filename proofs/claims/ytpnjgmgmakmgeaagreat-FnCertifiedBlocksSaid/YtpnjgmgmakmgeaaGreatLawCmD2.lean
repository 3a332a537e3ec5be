/- The walk of the law FnCertifiedBlocks (gen19/lawcmd.py). -/
import Derived.Test.YtpnjgmgmakmgeaaGreatDrC
import Derived.Test.YtpnjgmgmakmgeaaGreatCmI
import Derived.Test.YtpnjgmgmakmgeaaGreatCmS
import Derived.Test.YtpnjgmgmakmgeaaGreatOne
import Derived.Deep.RegionHeld3
import Derived.BigQuiet
namespace Go.Proofs.YtpnjgmgmakmgeaaGreat
open Go.RowKit
set_option linter.unusedVariables false
set_option linter.unusedSimpArgs false
theorem getD_takeV (L:List Ver) (m k:Nat) (h:k < m):(L.take m).getD k noV=L.getD k noV:=by
 rw [List.getD_eq_getElem?_getD,List.getD_eq_getElem?_getD,List.getElem?_take,if_pos h]
theorem cerK_mono {L:List Blk} {cs:List Ver} {j k:Nat} (h:(cerK L cs j).getD k false=true):(cerK L cs (j+1)).getD k false=true:=by
 rw [cerK]
 split
 · exact h
 · by_cases e:(cbN L (crtV (cs.getD j noV))).toNat=k
   · rw [e]
     by_cases hk:k < (cerK L cs j).length
     · exact getD_set_eqC _ _ _ hk
     · rw [List.getD_eq_getElem?_getD,List.getElem?_eq_none (by omega)] at h;cases h
   · rw [getD_set_neC _ _ _ e];exact h
theorem cerK_up {L:List Blk} {cs:List Ver} {j k:Nat} (h:(cerK L cs j).getD k false=true):∀ m,j≤m→(cerK L cs m).getD k false=true:=by
 intro m
 induction m with
 | zero =>
  intro hj
  obtain rfl:j=0:=by omega
  exact h
 | succ m ih =>
  intro hj
  by_cases e:j=m+1
  · rw [← e];exact h
  · exact cerK_mono (ih (by omega))
theorem cerK_first {L:List Blk} {cs:List Ver} (hL:0 < L.length) (m:Nat):(cerK L cs m).getD 0 false=true :=
 cerK_up (j:=0) (by rw [cerK];exact getD_set_eqC _ _ _ (by simp;exact hL)) m (Nat.zero_le _)
theorem cerK_take {L:List Blk} {cs:List Ver} {m:Nat}:∀ j,j≤m→cerK L (cs.take m) j=cerK L cs j:=by
 intro j
 induction j with
 | zero=>intro _;rfl
 | succ j ih=>intro hj;rw [cerK,cerK,ih (by omega),getD_takeV cs m j (by omega)]
theorem cerM_less {t:Tre} {cs:List Ver} {m:Nat} (ht:treB t=true) (hc:cs.length≤30) (hm:m≤cs.length):(cerM t (cs.take m)).length=t.blocks.length∧∀ k,(cerM t (cs.take m)).getD k false=true→(cerM t cs).getD k false=true:=by
 have hl:(cs.take m).length=m:=by rw [List.length_take];omega
 rw [cerM_yes ht hc,cerM_yes ht (show (cs.take m).length≤30 by omega),hl,cerK_take m (Nat.le_refl _)]
 exact ⟨cerK_len _ _ _,fun k h=>cerK_up h _ hm⟩
set_option maxRecDepth 100000 in
set_option maxHeartbeats 8000000 in
theorem lawCertifiedBlocks (a:Option Addr) (len cap:Nat) (z:List Int) (w:World) (h:RowB w a len z) (hc:a=none→cap=0) (hlc:len≤cap) :
  Calls Tryz.prog 9 #[.slice a len cap] w (LawTrue w):=by
 by_cases hs:len≤1048576
 case neg =>
  have hs':(1048576:Int) < (len:Int):=by omega
  clear h hlc
  go_enter Tryz.func9,Tryz.ntmps9
  go_wp2
  go_ret
  exact ⟨rfl,Below.refl _ _⟩
 case pos =>
  have hs':¬ (1048576:Int) < (len:Int):=by omega
  go_enter Tryz.func9,Tryz.ntmps9
  go_wp2_with fail
  refine (drawCertifiedBlocks_any a len cap z w h hlc).mono ?_;rintro e w1 ⟨b1,m1,d1,b2,m2,d2,b3,m3,d3,t,g,nx,cx,L,rfl,hrd,hsm,hnc,hn31,hb1⟩
  have HRD:=Lib.hid hrd
  have HB1:=Lib.hid hb1
  have HNC:=Lib.hid hnc
  have HN31:=Lib.hid hn31
  clear h hs hs' hc hlc hrd hb1 hsm hnc hn31
  go_upto_region 4 with (fail)
  generalize hw2:World.alloc _ _=w2
  have hb2:Below w1.heap.size w1 w2:=by rw [← hw2];exact (Below.refl _ _).alloc (Nat.le_refl _) _
  have hX2:TrAt w2 w1.heap.size (.slice b1 m1 d1) (.slice b2 m2 d2) (.slice b3 m3 d3):=by rw [← hw2];exact trAt_new w1 _ _ _ _
  obtain ⟨Z,hZ⟩:∃ Z,Z=w1.heap.size:=⟨_,rfl⟩
  rw [← hZ] at hX2 ⊢
  have HK:=Lib.hid (fun (W:World) (hb:Below w2.heap.size w2 W)=>(⟨hX2.below hb,(HRD.out W (fun k _ h2=>(hb2.trans (hb.mono hb2.size)).block k h2)).1,(HRD.out W (fun k _ h2=>(hb2.trans (hb.mono hb2.size)).block k h2)).2,HB1.out.trans ((hb2.trans (hb.mono hb2.size)).mono HB1.out.size)⟩:TrAt W Z (.slice b1 m1 d1) (.slice b2 m2 d2) (.slice b3 m3 d3)∧TreRd W (.slice b1 m1 d1) (.slice b2 m2 d2) (.slice b3 m3 d3) t∧RowV W (some ⟨g,0,none⟩) nx L∧Below w.heap.size w W))
  clear hw2 hb2 hX2 hZ HRD HB1
  obtain ⟨⟨z0,z1,z2,-⟩,hr,hv,-⟩:=HK.out w2 (Below.refl _ _)
  have HR:=Lib.hid hr
  have HV:=Lib.hid hv
  clear hr hv
  go_wp2_with fail
  refine (certifiedBlocks_impl _ _ _ t _ _ cx L w2 HR.out HV.out).mono ?_;rintro e w3 ⟨vx,rfl,hox,hlx,hb3⟩
  clear z0 z1 z2 HR HV
  obtain ⟨ax,kx,rfl,rx,-⟩:=rowO_of_owns hox (by omega)
  have HX3:=Lib.hid rx
  have HB3:=Lib.hid hb3
  clear hb3 hox hlx rx
  obtain ⟨⟨z0,z1,z2,-⟩,hr,hv,-⟩:=HK.out w3 HB3.out
  have HR:=Lib.hid hr
  have HV:=Lib.hid hv
  clear hr hv
  go_wp2_with fail
  refine (certifiedBlocks_spec _ _ _ t _ _ cx L w3 HR.out HV.out).mono ?_;rintro e w4 ⟨vy,rfl,hoy,hly,hb4⟩
  clear z0 z1 z2 HR HV
  obtain ⟨ay,ky,rfl,ry,-⟩:=rowO_of_owns hoy (by omega)
  have HY4:=Lib.hid ry
  have HX4:=Lib.hid (HX3.out.below hb4)
  have HB4:=Lib.hid (HB3.out.trans (hb4.mono HB3.out.size))
  clear hb4 hoy hly ry HB3 HX3
  rcases cerM_cases t L with ⟨hf,-⟩ | ⟨ht,hc30,hce,hl,hp,h14⟩
  · rw [hf]
    rw [show ([]:List Bool).length=0 from rfl]
    clear hf
    go_wp2_with fail
    refine (alive_any _).mono ?_;rintro e wz ⟨rfl,hbz⟩
    have HBF:=Lib.hid ((HK.out w4 HB4.out).2.2.2.trans (hbz.mono (HK.out w4 HB4.out).2.2.2.size))
    clear hbz
    go_wp2
    go_ret
    exact ⟨rfl,HBF.out⟩
  · obtain ⟨h5,h6⟩:=cerM_less (m:=L.length / 2) ht hc30 (by omega)
    have hfst:(cerM t L).getD 0 false=true:=by rw [hce];exact cerK_first (by omega) _
    have hnl:L.length=nx:=(HK.out w4 HB4.out).2.2.1.1
    rw [hnl] at h5 h6
    obtain ⟨C,hC⟩:∃ C,C=cerM t L:=⟨_,rfl⟩
    obtain ⟨N,hN⟩:∃ N,N=C.length:=⟨_,rfl⟩
    rw [← hC] at hl hp h14 hfst h6 HX4 HY4 ⊢
    rw [← hN] at hl hp h14 HX4 HY4 ⊢
    have HLE:=Lib.hid h6
    have HFS:=Lib.hid hfst
    have HL:=Lib.hid hl
    have HL5:=Lib.hid (h5.trans hl.symm)
    obtain ⟨m,hm⟩:∃ m,m=nx / 2:=⟨_,rfl⟩
    rw [← hm] at HLE HL5
    have hnc:=HNC.out
    have hn31:=HN31.out
    have ew:IntKind.i64.wrap (Int.tdiv (nx:Int) 2)=(m:Int):=by
     rw [show Int.tdiv (nx:Int) 2=(m:Int) by rw [Int.tdiv_eq_ediv_of_nonneg (by omega)];omega];exact IntWalk.i64_in _ (by omega)
    have ew2:IntKind.i64.wrap ((nx:Int) / 2)=(m:Int):=by
     rw [show (nx:Int) / 2=(m:Int) by omega];exact IntWalk.i64_in _ (by omega)
    have j1:(0:Int)≤(m:Int):=by omega
    have j2:(m:Int)≤(cx:Int):=by omega
    have j3:m≤cx:=by omega
    have e0:((N:Int) == 0)=false:=by simp;omega
    have hmn:m≤nx:=by omega
    clear hC hN h5 h6 hfst hl hc30 hce hnl hm ht hnc hn31
    obtain ⟨-,hr,hv,-⟩:=HK.out w4 HB4.out
    have HR:=Lib.hid hr
    have HV:=Lib.hid (hv.cut hmn)
    have HKP:=Lib.hid (fun (W':World) (hb:Below w4.heap.size w4 W')=>(⟨(HK.out W' (HB4.out.trans (hb.mono HB4.out.size))).1.c0,(HK.out W' (HB4.out.trans (hb.mono HB4.out.size))).1.c1,(HK.out W' (HB4.out.trans (hb.mono HB4.out.size))).1.c2⟩:W'.cell? ⟨Z,0,none⟩=some (.slice b1 m1 d1)∧W'.cell? ⟨Z,1,none⟩=some (.slice b2 m2 d2)∧W'.cell? ⟨Z,2,none⟩=some (.slice b3 m3 d3)))
    clear hr hv hmn
    go_upto_region 10 with (fail)
    refine wp_region_light (by kernel_rfl) (fun lz fz wz=>Vals [(0,32,.agg #[.slice b1 m1 d1,.slice b2 m2 d2,.slice b3 m3 d3]),(1,33,.slice (some ⟨g,0,none⟩) nx cx),(2,34,.slice (some ⟨g,0,none⟩) nx cx),(3,35,.int .i64 (nx:Int)),(4,36,.int .i64 (m:Int)),(5,37,.slice (some ⟨g,0,none⟩) m cx)] lz fz∧Facts w4 [] lz fz wz∧(lz 6=true→∃ al kl,fz 38 = .slice al N kl∧RowO wz al N (cerM t (L.take m)))∧(lz 7=true→lz 6=true∧fz 7=fz 38)) 84 rfl [32,33,34,35,36,37,38,7] (by kernel_rfl) (by kernel_rfl) (by kernel_rfl) (fun f=>⟨Vals.nothing _ f,Facts.nothing _ _ f,(fun h=>by cases h),fun h=>by cases h⟩) ?_ ?_
    · intro i hi
      rcases (by have:i < 8:=hi;omega:i=0∨i=1∨i=2∨i=3∨i=4∨i=5∨i=6∨i=7) with rfl | rfl | rfl | rfl | rfl | rfl | rfl | rfl
      all_goals (clear hi;intro o ho lz fz w' A ⟨hv,hr,hE,hD⟩ hli ha hA K hK;obtain rfl:=Option.some.inj ho;clear ho)
      · have gg3:=so hA 3 _ rfl
        simp only [List.getD_cons_succ,List.getD_cons_zero] at gg3
        rw [if_pos (by rfl)]
        obtain ⟨z0,z1,z2⟩:=HKP.out w' hr.1
        have hF:=hK (.agg #[.slice b1 m1 d1,.slice b2 m2 d2,.slice b3 m3 d3]) w' ⟨hv.step 0 32 _ (by simp),hr.step 0 32 _ (Below.refl _ _) (by simp),fun h=>by simpa using hE (by simpa using h),fun h=>by simpa using hD (by simpa using h)⟩
        clear hv hr ha hK hA hli hE hD;go_simp;exact hF
      · have gg4:=so hA 4 _ rfl
        simp only [List.getD_cons_succ,List.getD_cons_zero] at gg4
        rw [if_pos (by rfl)]
        have hF:=hK (.slice (some ⟨g,0,none⟩) nx cx) w' ⟨hv.step 1 33 _ (by simp),hr.step 1 33 _ (Below.refl _ _) (by simp),fun h=>by simpa using hE (by simpa using h),fun h=>by simpa using hD (by simpa using h)⟩
        clear hv hr ha hK hA hli hE hD;go_simp;exact hF
      · have gg4:=so hA 4 _ rfl
        simp only [List.getD_cons_succ,List.getD_cons_zero] at gg4
        rw [if_pos (by rfl)]
        have hF:=hK (.slice (some ⟨g,0,none⟩) nx cx) w' ⟨hv.step 2 34 _ (by simp),hr.step 2 34 _ (Below.refl _ _) (by simp),fun h=>by simpa using hE (by simpa using h),fun h=>by simpa using hD (by simpa using h)⟩
        clear hv hr ha hK hA hli hE hD;go_simp;exact hF
      · have gg34:=sj hA 34 (hv.at 2 rfl (ha 2 (by decide)))
        rw [if_pos (by rfl)]
        have hF:=hK (.int .i64 (nx:Int)) w' ⟨hv.step 3 35 _ (by simp),hr.step 3 35 _ (Below.refl _ _) (by simp),fun h=>by simpa using hE (by simpa using h),fun h=>by simpa using hD (by simpa using h)⟩
        clear hv hr ha hK hA hli hE hD;go_simp;exact hF
      · have gg35:=sj hA 35 (hv.at 3 rfl (ha 3 (by decide)))
        rw [if_pos (by rfl)]
        have hF:=hK (.int .i64 (m:Int)) w' ⟨hv.step 4 36 _ (by simp),hr.step 4 36 _ (Below.refl _ _) (by simp),fun h=>by simpa using hE (by simpa using h),fun h=>by simpa using hD (by simpa using h)⟩
        clear hv hr ha hK hA hli hE hD;go_simp;exact hF
      · have gg33:=sj hA 33 (hv.at 1 rfl (ha 1 (by decide)))
        have gg36:=sj hA 36 (hv.at 4 rfl (ha 4 (by decide)))
        rw [if_pos (by rfl)]
        have hF:=hK (.slice (some ⟨g,0,none⟩) m cx) w' ⟨hv.step 5 37 _ (by simp),hr.step 5 37 _ (Below.refl _ _) (by simp),fun h=>by simpa using hE (by simpa using h),fun h=>by simpa using hD (by simpa using h)⟩
        clear hv hr ha hK hA hli hE hD;go_simp;exact hF
      · have gg32:=sj hA 32 (hv.at 0 rfl (ha 0 (by decide)))
        have gg37:=sj hA 37 (hv.at 5 rfl (ha 5 (by decide)))
        rw [if_pos (by rfl)]
        clear hA
        go_simp
        refine (certifiedBlocks_impl _ _ _ t _ m cx (L.take m) w' (HR.out.below hr.1) (HV.out.below hr.1)).mono ?_
        rintro e9 w9 ⟨vl,rfl,hol,hll,hb9⟩
        rw [HL5.out] at hol
        obtain ⟨al,kl,rfl,rl,-⟩:=rowO_of_owns hol (by omega)
        exact hK _ w9 ⟨hv.step 6 38 _ (by simp),hr.step 6 38 _ hb9 (by simp),fun _=>⟨al,kl,by simp,rl⟩,fun h=>by have:=hD (by simpa using h);rw [hli] at this;cases this.1⟩
      · have l6:=ha 6 (by decide)
        obtain ⟨al,kl,hx38,hro⟩:=hE l6
        have gg38:=sj hA 38 hx38
        rw [if_pos (by rfl)]
        have hF:=hK (.slice al N kl) w' ⟨hv.step 7 7 _ (by simp),hr.step 7 7 _ (Below.refl _ _) (by simp),fun _=>⟨al,kl,by simpa using hx38,hro⟩,fun _=>⟨by simp [l6],by simp [hx38]⟩⟩
        clear hv hr ha hK hA hli hE hD hro;go_simp;exact hF
    · intro lz fz w5 hall ⟨hv,hq,hE,hD⟩
      obtain ⟨al,kl,hx38,rl⟩:=hE (hall 6 (by decide))
      have hx7:=(hD (hall 7 (by decide))).2
      rw [hx38] at hx7
      have hb5:=hq.1
      clear hv hq hall hE hD
      simp only [mixF,List.contains_cons,List.contains_nil]
      go_simp
      have HB5:=Lib.hid (HB4.out.trans (hb5.mono HB4.out.size))
      have HX5:=Lib.hid (HX4.out.below hb5)
      have HY5:=Lib.hid (HY4.out.below hb5)
      have HL6:=Lib.hid rl
      obtain ⟨C',hC'⟩:∃ C',C'=cerM t (L.take m):=⟨_,rfl⟩
      rw [← hC'] at HLE HL6
      clear hb5 rl HKP HR HV HB4 HX4 HY4 hC' HL5 ew ew2 j1 j2 j3
      go_wp2_with fail
      go_loopw [8] (fun i wr=>∃ k:Nat,k≤N∧i = .int .i64 (k:Int)∧Below w5.heap.size w5 wr) (fun i _=>N - (intOf i).toNat)
      case atStart=>exact ⟨0,Nat.zero_le _,rfl,Below.refl _ _⟩
      case round =>
       obtain ⟨k,hk,rfl,hb⟩:=hrel
       have HB:=Lib.hid hb
       obtain ⟨bx,ox,rfl,hcx⟩:=(HX5.out.below hb).2.2 hp
       have hcx0:=hcx 0 hp
       by_cases hlt:k < N
       · obtain ⟨by_,oy,rfl,hcy⟩:=(HY5.out.below hb).2.2 hp
         obtain ⟨bz,oz,rfl,hcz⟩:=(HL6.out.below hb).2.2 hp
         have hx:=hcx k hlt
         have hy:=hcy k hlt
         have hz:=hcz k hlt
         have hle:=HLE.out k
         obtain ⟨xv,hxv⟩:∃ x,x=C.getD k false:=⟨_,rfl⟩
         obtain ⟨zv,hzv⟩:∃ x,x=C'.getD k false:=⟨_,rfl⟩
         rw [← hxv] at hx hy hle
         rw [← hzv] at hz hle
         have i1:(0:Int)≤(k:Int):=by omega
         have i2:(k:Int) < (N:Int):=by omega
         have f1:(xv != xv)=false:=by simp
         have f2:decide ((N:Int)≤(k:Int))=false:=decide_eq_false (by omega)
         have f3:decide (N≤k)=false:=decide_eq_false (by omega)
         have HLX:=Lib.hid hle
         clear hcx hcy hcz hb hle hxv hzv hcx0
         cases zv with
         | false =>
          go_upto_region 14 with (fail)
          go_quiet (fail)
          go_wp2_with fail
          go_roundw
          case rel=>exact ⟨k+1,by omega,by go_num,by first | exact HB.out | exact below_drewN' HB.out _⟩
          case measure=>simp [intOf];omega
         | true =>
          obtain rfl:xv=true:=HLX.out rfl
          go_upto_region 14 with (fail)
          go_quiet (fail)
          go_wp2_with fail
          go_roundw
          case rel=>exact ⟨k+1,by omega,by go_num,by first | exact HB.out | exact below_drewN' HB.out _⟩
          case measure=>simp [intOf];omega
       · obtain rfl:k=N:=by omega
         have HBW:=Lib.hid (HK.out wr (HB5.out.trans (hb.mono HB5.out.size))).2.2.2
         obtain ⟨⟨z0,z1,z2,-⟩,hrd,-,-⟩:=HK.out wr (HB5.out.trans (hb.mono HB5.out.size))
         have hm2:m2=k:=by
          obtain ⟨-,⟨_,_,_,e2,r2,-,-⟩,-⟩:=hrd
          simp only [Value.slice.injEq] at e2
          obtain ⟨-,rfl,-⟩:=e2
          rw [HL.out];exact r2.1.symm
         subst hm2
         rw [HFS.out,Nat.add_zero] at hcx0
         have i3:(0:Int) < (m2:Int):=by omega
         clear hb hcx hrd
         go_wp2_with fail
         go_ret
         exact ⟨rfl,HBW.out⟩
end Go.Proofs.YtpnjgmgmakmgeaaGreat

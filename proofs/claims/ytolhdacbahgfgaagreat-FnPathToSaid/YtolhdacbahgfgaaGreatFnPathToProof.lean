/- FnPathTo: for every input the Go function loop.example/blockexecutor/laws.FnPathTo returns true and its arguments read afterwards as before; no conditions. -/
import Derived.Test.YtolhdacbahgfgaaGreatDrT
import Derived.Test.YtolhdacbahgfgaaGreatTrX
import Derived.Test.YtolhdacbahgfgaaGreatOne
import Derived.Test.YtolhdacbahgfgaaGreatRegJ
import Derived.Test.YtolhdacbahgfgaaGreatRegT
import Derived.Test.YtolhdacbahgfgaaGreatTrFP
import Derived.Test.YtolhdacbahgfgaaGreatConv
import Derived.WalkKit
import Derived.ProofKit
import Derived.OpenShut
import Derived.ShutString
import Derived.ChangeOld
import Derived.Below
namespace Go.Proofs.YtolhdacbahgfgaaGreat
open Go.RowKit
set_option linter.unusedVariables false
set_option linter.unusedSimpArgs false
set_option maxRecDepth 100000 in
set_option maxHeartbeats 8000000 in
theorem lawPathTo (a:Option Addr) (len cap:Nat) (z:List Int) (w:World) (h:RowB w a len z) (hc:a=none→cap=0) (hlc:len≤cap) :
  Calls Tryz.prog 7 #[.slice a len cap] w (LawTrue w):=by
 by_cases hs:len≤1048576
 · have hs':¬ (1048576:Int) < (len:Int):=by omega
   go_enter Tryz.func7,Tryz.ntmps7
   go_wp2_with fail
   refine (drawPathTo_any a len cap z w h hlc).mono ?_;rintro e w1 ⟨b1,m1,d1,b2,m2,d2,b3,m3,d3,t,x,rfl,hrd,hsm,hxb,hb1⟩
   have HRD:=Lib.hid hrd
   have HSM:=Lib.hid hsm
   have HB1:=Lib.hid hb1
   clear h hs hs' hc hlc hrd hb1 hsm
   go_upto_region 4 with (fail)
   generalize hw2:World.alloc _ _=w2
   have hb2:Below w1.heap.size w1 w2:=by rw [← hw2];exact (Below.refl _ _).alloc (Nat.le_refl _) _
   have hX2:TrAt w2 w1.heap.size (.slice b1 m1 d1) (.slice b2 m2 d2) (.slice b3 m3 d3):=by rw [← hw2];exact trAt_new w1 _ _ _ _
   have HK:=Lib.hid (fun (W:World) (hb:Below w2.heap.size w2 W)=>(⟨hX2.below hb,HRD.out W (hb2.trans (hb.mono hb2.size)),HB1.out.trans ((hb2.trans (hb.mono hb2.size)).mono HB1.out.size)⟩:TrAt W w1.heap.size (.slice b1 m1 d1) (.slice b2 m2 d2) (.slice b3 m3 d3)∧TreRd W (.slice b1 m1 d1) (.slice b2 m2 d2) (.slice b3 m3 d3) t∧Below w.heap.size w W))
   have HLN:=Lib.hid (treRd_len (HK.out w2 (Below.refl _ _)).2.1)
   obtain ⟨Z,hZe⟩:∃ Z,Z=w1.heap.size:=⟨_,rfl⟩
   rw [← hZe] at HK ⊢
   clear hw2 hb2 hX2 hZe HRD HB1
   obtain ⟨X,hX⟩:∃ X,X=pathM t x:=⟨_,rfl⟩
   have HX:=Lib.hid hX
   obtain ⟨hxw,hxl⟩:=pathM_ok t x
   rw [← hX] at hxw hxl
   have HXW:=Lib.hid hxw
   have HXL:=Lib.hid hxl
   clear hX hxw hxl
   obtain ⟨⟨z0,z1,z2,-,-,-⟩,hr2,-⟩:=HK.out w2 (Below.refl _ _)
   have HC:=Lib.hid (pathTo_impl _ _ _ t x w2 hr2)
   rw [← HX.out] at HC
   clear hr2
   go_wp2_with fail
   refine HC.out.mono ?_;rintro en w3 ⟨vx,rfl,ho3,-,-,hb3⟩
   have HO3:=Lib.hid ho3
   have HB3:=Lib.hid hb3
   obtain ⟨a5,c5,rfl,hrx3⟩:=rowI_of_owns ho3 (by have:=HXL.out;unfold maxLen;omega) HXW.out
   have HR3:=Lib.hid hrx3
   clear z0 z1 z2 HC hb3 ho3 hrx3
   obtain ⟨⟨z0,z1,z2,-,-,-⟩,hr3,-⟩:=HK.out w3 HB3.out
   have HC:=Lib.hid (pathTo_spec _ _ _ t x w3 hr3)
   rw [← HX.out] at HC
   clear hr3
   go_wp2_with fail
   refine HC.out.mono ?_;rintro en w4 ⟨vy,rfl,ho4,-,-,hb4⟩
   obtain ⟨a6,c6,rfl,hrx4⟩:=rowI_of_owns ho4 (by have:=HXL.out;unfold maxLen;omega) HXW.out
   have HB4:=Lib.hid (HB3.out.trans (hb4.mono HB3.out.size))
   have HR4:=Lib.hid (HR3.out.below hb4)
   have HRY4:=Lib.hid hrx4
   clear z0 z1 z2 HC hb4 ho4 hrx4 HO3 HR3 HB3
   obtain ⟨⟨z0,z1,z2,-,-,-⟩,-,-⟩:=HK.out w4 HB4.out
   go_wp2_with fail
   refine (sameInts_same _ _ _ c5 c6 X _ HR4.out HRY4.out).mono ?_;rintro en w5 ⟨rfl,hb5⟩
   have HB5:=Lib.hid (HB4.out.trans (hb5.mono HB4.out.size))
   have HR5:=Lib.hid (HR4.out.below hb5)
   clear z0 z1 z2 hb5 HB4 HR4 HRY4
   obtain ⟨⟨z0,z1,z2,-,-,-⟩,-,-⟩:=HK.out w5 HB5.out
   by_cases hxe:X.length=0
   · have hxz:((X.length:Int) == 0)=true:=by simp;exact List.eq_nil_of_length_eq_zero hxe
     rw [hxe]
     go_wp2_with fail
     refine (alive_any _).mono ?_;rintro en w6 ⟨rfl,hb6⟩
     have HBF:=Lib.hid (HK.out w6 (HB5.out.trans (hb6.mono HB5.out.size))).2.2
     clear hb6
     go_wp2
     go_ret
     exact ⟨rfl,HBF.out⟩
   · have hne:(pathM t x).length≠0:=by rw [← HX.out];exact hxe
     have hok:=path_ok hne
     have hin:0≤x∧x < t.blocks.length:=by
      by_cases hh:0≤x∧x < t.blocks.length
      · exact hh
      · rw [pathM_no (.inr hh)] at hne;exact absurd rfl hne
     obtain ⟨n,hn⟩:=Int.eq_ofNat_of_zero_le hin.1
     change x=(n:Int) at hn
     subst hn
     have hnl:n < t.blocks.length:=by omega
     obtain ⟨N,f1,f2,f3,f4,f5⟩:=path_facts hok hnl
     rw [← HX.out] at f1 f2 f3 f5
     have h3:=((treB_iff t).1 hok).len
     have hN:N+1≤14:=by rw [← f1];exact HXL.out
     have HF:=Lib.hid (⟨f2,f3,f4,f5⟩ : _∧_∧_∧_)
     have HLM:Hid (t.blocks.length=m2∧t.bef.length=m3∧m3=m2∧n < m2):=Lib.hid (by have:=HLN.out;omega)
     have hr5:=HR5.out
     rw [f1] at hr5 ⊢
     obtain ⟨bx,ox,rfl,hcx⟩:=hr5.2.2.1 (by omega)
     have HCX0:=Lib.hid hcx
     have hlx:=hr5
     have hbx5:bx < w5.heap.size:=World.block_lt_of_cell? w5 ⟨bx,ox+0,none⟩ (hcx 0 (by omega))
     have HCC:=Lib.hid (fun (W:World) (hb:Below w5.heap.size w5 W) (k:Nat) (hk:k < N+1)=>((hb.cell (p:=⟨bx,ox+k,none⟩) hbx5).trans (hcx k hk):W.cell? ⟨bx,ox+k,none⟩=some (.int .i64 (X.getD k 0))))
     have hrd5:=(HK.out w5 HB5.out).2.1
     have hbw5:Below w2.heap.size w2 w5:=HB5.out
     obtain ⟨-,-,⟨_,_,_,e3,r3,-,-⟩⟩:=hrd5
     simp only [Value.slice.injEq] at e3
     obtain ⟨rfl,rfl,rfl⟩:=e3
     obtain ⟨bb,ob,rfl,hcb⟩:=r3.2.2.1 (by have:=HLM.out;omega)
     have hbb5:bb < w5.heap.size:=World.block_lt_of_cell? w5 ⟨bb,ob+0,none⟩ (hcb 0 (by have:=HLM.out;omega))
     have HCB5:=Lib.hid (fun (W:World) (hb:Below w5.heap.size w5 W) (k:Nat) (hk:k < m3)=>((hb.cell (p:=⟨bb,ob+k,none⟩) hbb5).trans (hcb k hk):W.cell? ⟨bb,ob+k,none⟩=some (.int .i64 (t.bef.getD k 0))))
     have HBX5:=Lib.hid (fun (W:World) (hb:Below w5.heap.size w5 W)=>(HK.out W (HB5.out.trans (hb.mono HB5.out.size))).1)
     have HOK:=Lib.hid hok
     clear hxe hne hok hin hnl f1 f2 f3 f4 f5 h3 hr5 hcx hlx hbx5 r3 hcb hbb5 hbw5
     go_wp2_with fail
     go_loopw [6] (fun q wr=>∃ j:Nat,q = .int .i64 ((j:Int)+1)∧j≤N∧Below w5.heap.size w5 wr) (fun q _=>(N+1 - intOf q).toNat)
     case atStart=>exact ⟨0,rfl,Nat.zero_le _,Below.refl _ _⟩
     case round =>
      clear z0 z1 z2
      obtain ⟨j,rfl,hj,hb⟩:=hrel
      have HB:=Lib.hid hb
      clear hb
      by_cases hjN:j < N
      · obtain ⟨y,y1,y2,y3⟩:=HF.out.2.2.2 j hjN
        obtain ⟨p,hp⟩:∃ p,p=X.getD j 0:=⟨_,rfl⟩
        rw [← hp] at y3
        have HCX:=Lib.hid (fun (W:World) (hb:Below wr.heap.size wr W)=>(⟨by have:=HCC.out W (HB.out.trans (hb.mono HB.out.size)) (j+1) (by omega);rw [y1] at this;exact this,by have:=HCC.out W (HB.out.trans (hb.mono HB.out.size)) j (by omega);rw [← hp] at this;exact this⟩:W.cell? ⟨bx,ox+(j+1),none⟩=some (.int .i64 (y:Int))∧W.cell? ⟨bx,ox+j,none⟩=some (.int .i64 p)))
        have HCB:=Lib.hid (fun (W:World) (hb:Below wr.heap.size wr W)=>(by have:=HCB5.out W (HB.out.trans (hb.mono HB.out.size)) y (by have:=HLM.out;omega);rw [y3] at this;exact this:W.cell? ⟨bb,ob+y,none⟩=some (.int .i64 p)))
        have HBX:=Lib.hid (fun (W:World) (hb:Below wr.heap.size wr W)=>HBX5.out W (HB.out.trans (hb.mono HB.out.size)))
        have hym:y < m3:=by have:=HLM.out;omega
        have hlt:decide ((j:Int)+1 < (N:Int)+1)=true:=by simp;omega
        have hy0:decide ((y:Int) < 0)=false:=by simp
        have hym2:decide ((m3:Int)≤(y:Int))=false:=by simp;omega
        have hym3:decide (m3≤y)=false:=by simp;omega
        have hjn1:(j:Int) < (N:Int)+1:=by omega
        have hwj:IntKind.i64.wrap (j:Int)=(j:Int):=IntWalk.i64_in _ (by omega)
        have hwj1:IntKind.i64.wrap ((j:Int)+1 - 1)=(j:Int):=(by rw [show (j:Int)+1 - 1=(j:Int) by omega];exact hwj)
        have hwj2:IntKind.i64.wrap ((j:Int)+1+1)=(j:Int)+1+1:=IntWalk.i64_in _ (by omega)
        clear y1 y2 y3 hp
        go_upto_region 12 with (fail)
        refine wp_region_light (by kernel_rfl) (fun lz fz wz=>Vals [(0,34,(.slice (some ⟨bx,ox,none⟩) (N+1) c5)),(1,35,(.int .i64 ((j:Int)+1))),(2,36,(.pointer (some ⟨bx,ox+(j+1),none⟩))),(3,37,(.int .i64 (y:Int))),(4,38,(.bool false)),(5,39,(.bool false)),(6,40,(.slice (some ⟨bx,ox,none⟩) (N+1) c5)),(7,41,(.int .i64 ((j:Int)+1))),(8,42,(.pointer (some ⟨bx,ox+(j+1),none⟩))),(9,43,(.int .i64 (y:Int))),(10,44,(.pointer (some ⟨Z,2,none⟩))),(11,45,(.slice (some ⟨bb,ob,none⟩) m3 d3)),(12,46,(.int .i64 (m3:Int))),(13,47,(.bool false)),(14,48,(.bool false)),(15,49,(.bool false)),(16,50,(.pointer (some ⟨Z,2,none⟩))),(17,51,(.slice (some ⟨bb,ob,none⟩) m3 d3)),(18,52,(.slice (some ⟨bx,ox,none⟩) (N+1) c5)),(19,53,(.int .i64 ((j:Int)+1))),(20,54,(.pointer (some ⟨bx,ox+(j+1),none⟩))),(21,55,(.int .i64 (y:Int))),(22,56,(.pointer (some ⟨bb,ob+y,none⟩))),(23,57,(.int .i64 p)),(24,58,(.slice (some ⟨bx,ox,none⟩) (N+1) c5)),(25,59,(.int .i64 ((j:Int)+1))),(26,60,(.int .i64 (j:Int))),(27,61,(.pointer (some ⟨bx,ox+j,none⟩))),(28,62,(.int .i64 p)),(29,63,(.bool false)),(30,64,(.bool false))] lz fz∧Facts wr [] lz fz wz) 91 rfl [34,35,36,37,38,39,40,41,42,43,44,45,46,47,48,49,50,51,52,53,54,55,56,57,58,59,60,61,62,63,64] (by kernel_rfl) (by kernel_rfl) (by kernel_rfl) (fun f=>⟨Vals.nothing _ f,Facts.nothing _ _ f⟩) ?_ ?_
        · intro i hi
          rcases (by have:i < 31:=hi;omega:i=0∨i=1∨i=2∨i=3∨i=4∨i=5∨i=6∨i=7∨i=8∨i=9∨i=10∨i=11∨i=12∨i=13∨i=14∨i=15∨i=16∨i=17∨i=18∨i=19∨i=20∨i=21∨i=22∨i=23∨i=24∨i=25∨i=26∨i=27∨i=28∨i=29∨i=30) with rfl | rfl | rfl | rfl | rfl | rfl | rfl | rfl | rfl | rfl | rfl | rfl | rfl | rfl | rfl | rfl | rfl | rfl | rfl | rfl | rfl | rfl | rfl | rfl | rfl | rfl | rfl | rfl | rfl | rfl | rfl
          all_goals (clear hi;intro o ho lz fz w' A ⟨hv,hr⟩ hli ha hA K hK;obtain rfl:=Option.some.inj ho;clear ho)
          · have g5:=slot_out hA 5 _ (by decide) (by decide) rfl
            simp only [List.getD_cons_succ,List.getD_cons_zero] at g5
            have gg5:=slot_get g5
            rw [if_pos (by rfl)]
            have hF:=hK (.slice (some ⟨bx,ox,none⟩) (N+1) c5) w' ⟨hv.step 0 34 _ (by simp),hr.step 0 34 _ (Below.refl _ _) (by simp)⟩
            clear hv hr ha hK hA hli
            go_simp
            exact hF
          · have g6:=slot_out hA 6 _ (by decide) (by decide) rfl
            simp only [List.getD_cons_succ,List.getD_cons_zero] at g6
            have gg6:=slot_get g6
            rw [if_pos (by rfl)]
            have hF:=hK (.int .i64 ((j:Int)+1)) w' ⟨hv.step 1 35 _ (by simp),hr.step 1 35 _ (Below.refl _ _) (by simp)⟩
            clear hv hr ha hK hA hli
            go_simp
            exact hF
          · have g34:=si hA 34 (hv.at 0 rfl (ha 0 (by simp [aftersOf,Region.binds])))
            have g35:=si hA 35 (hv.at 1 rfl (ha 1 (by simp [aftersOf,Region.binds])))
            have gg34:=slot_get g34
            have gg35:=slot_get g35
            rw [if_pos (by rfl)]
            have hF:=hK (.pointer (some ⟨bx,ox+(j+1),none⟩)) w' ⟨hv.step 2 36 _ (by simp),hr.step 2 36 _ (Below.refl _ _) (by simp)⟩
            clear hv hr ha hK hA hli
            go_simp
            exact hF
          · have g36:=si hA 36 (hv.at 2 rfl (ha 2 (by simp [aftersOf,Region.binds])))
            have gg36:=slot_get g36
            rw [if_pos (by rfl)]
            obtain ⟨q0,q1⟩:=HCX.out w' hr.1
            have hF:=hK (.int .i64 (y:Int)) w' ⟨hv.step 3 37 _ (by simp),hr.step 3 37 _ (Below.refl _ _) (by simp)⟩
            clear hv hr ha hK hA hli
            go_simp
            exact hF
          · have g37:=si hA 37 (hv.at 3 rfl (ha 3 (by simp [aftersOf,Region.binds])))
            have gg37:=slot_get g37
            rw [if_pos (by rfl)]
            have hF:=hK (.bool false) w' ⟨hv.step 4 38 _ (by simp),hr.step 4 38 _ (Below.refl _ _) (by simp)⟩
            clear hv hr ha hK hA hli
            go_simp
            exact hF
          · have g38:=si hA 38 (hv.at 4 rfl (ha 4 (by simp [aftersOf,Region.binds])))
            have gg38:=slot_get g38
            rw [if_pos (by rfl)]
            have hF:=hK (.bool false) w' ⟨hv.step 5 39 _ (by simp),hr.step 5 39 _ (Below.refl _ _) (by simp)⟩
            clear hv hr ha hK hA hli
            go_simp
            exact hF
          · have g5:=slot_out hA 5 _ (by decide) (by decide) rfl
            simp only [List.getD_cons_succ,List.getD_cons_zero] at g5
            have g39:=si hA 39 (hv.at 5 rfl (ha 5 (by simp [aftersOf,Region.binds])))
            have gg5:=slot_get g5
            have gg39:=slot_get g39
            rw [if_pos (by simp [Region.wanted,yielded,slot_bool g39])]
            have hF:=hK (.slice (some ⟨bx,ox,none⟩) (N+1) c5) w' ⟨hv.step 6 40 _ (by simp),hr.step 6 40 _ (Below.refl _ _) (by simp)⟩
            clear hv hr ha hK hA hli
            go_simp
            exact hF
          · have g6:=slot_out hA 6 _ (by decide) (by decide) rfl
            simp only [List.getD_cons_succ,List.getD_cons_zero] at g6
            have g39:=si hA 39 (hv.at 5 rfl (ha 5 (by simp [aftersOf,Region.binds])))
            have gg6:=slot_get g6
            have gg39:=slot_get g39
            rw [if_pos (by simp [Region.wanted,yielded,slot_bool g39])]
            have hF:=hK (.int .i64 ((j:Int)+1)) w' ⟨hv.step 7 41 _ (by simp),hr.step 7 41 _ (Below.refl _ _) (by simp)⟩
            clear hv hr ha hK hA hli
            go_simp
            exact hF
          · have g40:=si hA 40 (hv.at 6 rfl (ha 6 (by simp [aftersOf,Region.binds])))
            have g41:=si hA 41 (hv.at 7 rfl (ha 7 (by simp [aftersOf,Region.binds])))
            have g39:=si hA 39 (hv.at 5 rfl (ha 5 (by simp [aftersOf,Region.binds])))
            have gg40:=slot_get g40
            have gg41:=slot_get g41
            have gg39:=slot_get g39
            rw [if_pos (by simp [Region.wanted,yielded,slot_bool g39])]
            have hF:=hK (.pointer (some ⟨bx,ox+(j+1),none⟩)) w' ⟨hv.step 8 42 _ (by simp),hr.step 8 42 _ (Below.refl _ _) (by simp)⟩
            clear hv hr ha hK hA hli
            go_simp
            exact hF
          · have g42:=si hA 42 (hv.at 8 rfl (ha 8 (by simp [aftersOf,Region.binds])))
            have g39:=si hA 39 (hv.at 5 rfl (ha 5 (by simp [aftersOf,Region.binds])))
            have gg42:=slot_get g42
            have gg39:=slot_get g39
            rw [if_pos (by simp [Region.wanted,yielded,slot_bool g39])]
            obtain ⟨q0,q1⟩:=HCX.out w' hr.1
            have hF:=hK (.int .i64 (y:Int)) w' ⟨hv.step 9 43 _ (by simp),hr.step 9 43 _ (Below.refl _ _) (by simp)⟩
            clear hv hr ha hK hA hli
            go_simp
            exact hF
          · have g3:=slot_out hA 3 _ (by decide) (by decide) rfl
            simp only [List.getD_cons_succ,List.getD_cons_zero] at g3
            have g39:=si hA 39 (hv.at 5 rfl (ha 5 (by simp [aftersOf,Region.binds])))
            have gg3:=slot_get g3
            have gg39:=slot_get g39
            rw [if_pos (by simp [Region.wanted,yielded,slot_bool g39])]
            have hF:=hK (.pointer (some ⟨Z,2,none⟩)) w' ⟨hv.step 10 44 _ (by simp),hr.step 10 44 _ (Below.refl _ _) (by simp)⟩
            clear hv hr ha hK hA hli
            go_simp
            exact hF
          · have g44:=si hA 44 (hv.at 10 rfl (ha 10 (by simp [aftersOf,Region.binds])))
            have g39:=si hA 39 (hv.at 5 rfl (ha 5 (by simp [aftersOf,Region.binds])))
            have gg44:=slot_get g44
            have gg39:=slot_get g39
            rw [if_pos (by simp [Region.wanted,yielded,slot_bool g39])]
            obtain ⟨z0,z1,z2,-,-,-⟩:=HBX.out w' hr.1
            have hF:=hK (.slice (some ⟨bb,ob,none⟩) m3 d3) w' ⟨hv.step 11 45 _ (by simp),hr.step 11 45 _ (Below.refl _ _) (by simp)⟩
            clear hv hr ha hK hA hli
            go_simp
            exact hF
          · have g45:=si hA 45 (hv.at 11 rfl (ha 11 (by simp [aftersOf,Region.binds])))
            have g39:=si hA 39 (hv.at 5 rfl (ha 5 (by simp [aftersOf,Region.binds])))
            have gg45:=slot_get g45
            have gg39:=slot_get g39
            rw [if_pos (by simp [Region.wanted,yielded,slot_bool g39])]
            have hF:=hK (.int .i64 (m3:Int)) w' ⟨hv.step 12 46 _ (by simp),hr.step 12 46 _ (Below.refl _ _) (by simp)⟩
            clear hv hr ha hK hA hli
            go_simp
            exact hF
          · have g43:=si hA 43 (hv.at 9 rfl (ha 9 (by simp [aftersOf,Region.binds])))
            have g46:=si hA 46 (hv.at 12 rfl (ha 12 (by simp [aftersOf,Region.binds])))
            have g39:=si hA 39 (hv.at 5 rfl (ha 5 (by simp [aftersOf,Region.binds])))
            have gg43:=slot_get g43
            have gg46:=slot_get g46
            have gg39:=slot_get g39
            rw [if_pos (by simp [Region.wanted,yielded,slot_bool g39])]
            have hF:=hK (.bool false) w' ⟨hv.step 13 47 _ (by simp),hr.step 13 47 _ (Below.refl _ _) (by simp)⟩
            clear hv hr ha hK hA hli
            go_simp
            exact hF
          · have g39:=si hA 39 (hv.at 5 rfl (ha 5 (by simp [aftersOf,Region.binds])))
            have g47:=si hA 47 (hv.at 13 rfl (ha 13 (by simp [aftersOf,Region.binds])))
            have gg39:=slot_get g39
            have gg47:=slot_get g47
            rw [if_pos (by rfl)]
            have hF:=hK (.bool false) w' ⟨hv.step 14 48 _ (by simp),hr.step 14 48 _ (Below.refl _ _) (by simp)⟩
            clear hv hr ha hK hA hli
            go_simp
            exact hF
          · have g48:=si hA 48 (hv.at 14 rfl (ha 14 (by simp [aftersOf,Region.binds])))
            have gg48:=slot_get g48
            rw [if_pos (by rfl)]
            have hF:=hK (.bool false) w' ⟨hv.step 15 49 _ (by simp),hr.step 15 49 _ (Below.refl _ _) (by simp)⟩
            clear hv hr ha hK hA hli
            go_simp
            exact hF
          · have g3:=slot_out hA 3 _ (by decide) (by decide) rfl
            simp only [List.getD_cons_succ,List.getD_cons_zero] at g3
            have g49:=si hA 49 (hv.at 15 rfl (ha 15 (by simp [aftersOf,Region.binds])))
            have gg3:=slot_get g3
            have gg49:=slot_get g49
            rw [if_pos (by simp [Region.wanted,yielded,slot_bool g49])]
            have hF:=hK (.pointer (some ⟨Z,2,none⟩)) w' ⟨hv.step 16 50 _ (by simp),hr.step 16 50 _ (Below.refl _ _) (by simp)⟩
            clear hv hr ha hK hA hli
            go_simp
            exact hF
          · have g50:=si hA 50 (hv.at 16 rfl (ha 16 (by simp [aftersOf,Region.binds])))
            have g49:=si hA 49 (hv.at 15 rfl (ha 15 (by simp [aftersOf,Region.binds])))
            have gg50:=slot_get g50
            have gg49:=slot_get g49
            rw [if_pos (by simp [Region.wanted,yielded,slot_bool g49])]
            obtain ⟨z0,z1,z2,-,-,-⟩:=HBX.out w' hr.1
            have hF:=hK (.slice (some ⟨bb,ob,none⟩) m3 d3) w' ⟨hv.step 17 51 _ (by simp),hr.step 17 51 _ (Below.refl _ _) (by simp)⟩
            clear hv hr ha hK hA hli
            go_simp
            exact hF
          · have g5:=slot_out hA 5 _ (by decide) (by decide) rfl
            simp only [List.getD_cons_succ,List.getD_cons_zero] at g5
            have g49:=si hA 49 (hv.at 15 rfl (ha 15 (by simp [aftersOf,Region.binds])))
            have gg5:=slot_get g5
            have gg49:=slot_get g49
            rw [if_pos (by simp [Region.wanted,yielded,slot_bool g49])]
            have hF:=hK (.slice (some ⟨bx,ox,none⟩) (N+1) c5) w' ⟨hv.step 18 52 _ (by simp),hr.step 18 52 _ (Below.refl _ _) (by simp)⟩
            clear hv hr ha hK hA hli
            go_simp
            exact hF
          · have g6:=slot_out hA 6 _ (by decide) (by decide) rfl
            simp only [List.getD_cons_succ,List.getD_cons_zero] at g6
            have g49:=si hA 49 (hv.at 15 rfl (ha 15 (by simp [aftersOf,Region.binds])))
            have gg6:=slot_get g6
            have gg49:=slot_get g49
            rw [if_pos (by simp [Region.wanted,yielded,slot_bool g49])]
            have hF:=hK (.int .i64 ((j:Int)+1)) w' ⟨hv.step 19 53 _ (by simp),hr.step 19 53 _ (Below.refl _ _) (by simp)⟩
            clear hv hr ha hK hA hli
            go_simp
            exact hF
          · have g52:=si hA 52 (hv.at 18 rfl (ha 18 (by simp [aftersOf,Region.binds])))
            have g53:=si hA 53 (hv.at 19 rfl (ha 19 (by simp [aftersOf,Region.binds])))
            have g49:=si hA 49 (hv.at 15 rfl (ha 15 (by simp [aftersOf,Region.binds])))
            have gg52:=slot_get g52
            have gg53:=slot_get g53
            have gg49:=slot_get g49
            rw [if_pos (by simp [Region.wanted,yielded,slot_bool g49])]
            have hF:=hK (.pointer (some ⟨bx,ox+(j+1),none⟩)) w' ⟨hv.step 20 54 _ (by simp),hr.step 20 54 _ (Below.refl _ _) (by simp)⟩
            clear hv hr ha hK hA hli
            go_simp
            exact hF
          · have g54:=si hA 54 (hv.at 20 rfl (ha 20 (by simp [aftersOf,Region.binds])))
            have g49:=si hA 49 (hv.at 15 rfl (ha 15 (by simp [aftersOf,Region.binds])))
            have gg54:=slot_get g54
            have gg49:=slot_get g49
            rw [if_pos (by simp [Region.wanted,yielded,slot_bool g49])]
            obtain ⟨q0,q1⟩:=HCX.out w' hr.1
            have hF:=hK (.int .i64 (y:Int)) w' ⟨hv.step 21 55 _ (by simp),hr.step 21 55 _ (Below.refl _ _) (by simp)⟩
            clear hv hr ha hK hA hli
            go_simp
            exact hF
          · have g51:=si hA 51 (hv.at 17 rfl (ha 17 (by simp [aftersOf,Region.binds])))
            have g55:=si hA 55 (hv.at 21 rfl (ha 21 (by simp [aftersOf,Region.binds])))
            have g49:=si hA 49 (hv.at 15 rfl (ha 15 (by simp [aftersOf,Region.binds])))
            have gg51:=slot_get g51
            have gg55:=slot_get g55
            have gg49:=slot_get g49
            rw [if_pos (by simp [Region.wanted,yielded,slot_bool g49])]
            have hF:=hK (.pointer (some ⟨bb,ob+y,none⟩)) w' ⟨hv.step 22 56 _ (by simp),hr.step 22 56 _ (Below.refl _ _) (by simp)⟩
            clear hv hr ha hK hA hli
            go_simp
            exact hF
          · have g56:=si hA 56 (hv.at 22 rfl (ha 22 (by simp [aftersOf,Region.binds])))
            have g49:=si hA 49 (hv.at 15 rfl (ha 15 (by simp [aftersOf,Region.binds])))
            have gg56:=slot_get g56
            have gg49:=slot_get g49
            rw [if_pos (by simp [Region.wanted,yielded,slot_bool g49])]
            have q2:=HCB.out w' hr.1
            have hF:=hK (.int .i64 p) w' ⟨hv.step 23 57 _ (by simp),hr.step 23 57 _ (Below.refl _ _) (by simp)⟩
            clear hv hr ha hK hA hli
            go_simp
            exact hF
          · have g5:=slot_out hA 5 _ (by decide) (by decide) rfl
            simp only [List.getD_cons_succ,List.getD_cons_zero] at g5
            have g49:=si hA 49 (hv.at 15 rfl (ha 15 (by simp [aftersOf,Region.binds])))
            have gg5:=slot_get g5
            have gg49:=slot_get g49
            rw [if_pos (by simp [Region.wanted,yielded,slot_bool g49])]
            have hF:=hK (.slice (some ⟨bx,ox,none⟩) (N+1) c5) w' ⟨hv.step 24 58 _ (by simp),hr.step 24 58 _ (Below.refl _ _) (by simp)⟩
            clear hv hr ha hK hA hli
            go_simp
            exact hF
          · have g6:=slot_out hA 6 _ (by decide) (by decide) rfl
            simp only [List.getD_cons_succ,List.getD_cons_zero] at g6
            have g49:=si hA 49 (hv.at 15 rfl (ha 15 (by simp [aftersOf,Region.binds])))
            have gg6:=slot_get g6
            have gg49:=slot_get g49
            rw [if_pos (by simp [Region.wanted,yielded,slot_bool g49])]
            have hF:=hK (.int .i64 ((j:Int)+1)) w' ⟨hv.step 25 59 _ (by simp),hr.step 25 59 _ (Below.refl _ _) (by simp)⟩
            clear hv hr ha hK hA hli
            go_simp
            exact hF
          · have g59:=si hA 59 (hv.at 25 rfl (ha 25 (by simp [aftersOf,Region.binds])))
            have g49:=si hA 49 (hv.at 15 rfl (ha 15 (by simp [aftersOf,Region.binds])))
            have gg59:=slot_get g59
            have gg49:=slot_get g49
            rw [if_pos (by simp [Region.wanted,yielded,slot_bool g49])]
            have hF:=hK (.int .i64 (j:Int)) w' ⟨hv.step 26 60 _ (by simp),hr.step 26 60 _ (Below.refl _ _) (by simp)⟩
            clear hv hr ha hK hA hli
            go_simp
            exact hF
          · have g58:=si hA 58 (hv.at 24 rfl (ha 24 (by simp [aftersOf,Region.binds])))
            have g60:=si hA 60 (hv.at 26 rfl (ha 26 (by simp [aftersOf,Region.binds])))
            have g49:=si hA 49 (hv.at 15 rfl (ha 15 (by simp [aftersOf,Region.binds])))
            have gg58:=slot_get g58
            have gg60:=slot_get g60
            have gg49:=slot_get g49
            rw [if_pos (by simp [Region.wanted,yielded,slot_bool g49])]
            have hF:=hK (.pointer (some ⟨bx,ox+j,none⟩)) w' ⟨hv.step 27 61 _ (by simp),hr.step 27 61 _ (Below.refl _ _) (by simp)⟩
            clear hv hr ha hK hA hli
            go_simp
            exact hF
          · have g61:=si hA 61 (hv.at 27 rfl (ha 27 (by simp [aftersOf,Region.binds])))
            have g49:=si hA 49 (hv.at 15 rfl (ha 15 (by simp [aftersOf,Region.binds])))
            have gg61:=slot_get g61
            have gg49:=slot_get g49
            rw [if_pos (by simp [Region.wanted,yielded,slot_bool g49])]
            obtain ⟨q0,q1⟩:=HCX.out w' hr.1
            have hF:=hK (.int .i64 p) w' ⟨hv.step 28 62 _ (by simp),hr.step 28 62 _ (Below.refl _ _) (by simp)⟩
            clear hv hr ha hK hA hli
            go_simp
            exact hF
          · have g57:=si hA 57 (hv.at 23 rfl (ha 23 (by simp [aftersOf,Region.binds])))
            have g62:=si hA 62 (hv.at 28 rfl (ha 28 (by simp [aftersOf,Region.binds])))
            have g49:=si hA 49 (hv.at 15 rfl (ha 15 (by simp [aftersOf,Region.binds])))
            have gg57:=slot_get g57
            have gg62:=slot_get g62
            have gg49:=slot_get g49
            rw [if_pos (by simp [Region.wanted,yielded,slot_bool g49])]
            have hF:=hK (.bool false) w' ⟨hv.step 29 63 _ (by simp),hr.step 29 63 _ (Below.refl _ _) (by simp)⟩
            clear hv hr ha hK hA hli
            go_simp
            exact hF
          · have g49:=si hA 49 (hv.at 15 rfl (ha 15 (by simp [aftersOf,Region.binds])))
            have g63:=si hA 63 (hv.at 29 rfl (ha 29 (by simp [aftersOf,Region.binds])))
            have gg49:=slot_get g49
            have gg63:=slot_get g63
            rw [if_pos (by rfl)]
            have hF:=hK (.bool false) w' ⟨hv.step 30 64 _ (by simp),hr.step 30 64 _ (Below.refl _ _) (by simp)⟩
            clear hv hr ha hK hA hli
            go_simp
            exact hF
        · intro lz fz w9 hall ⟨hv,hq⟩
          have h64:=hv.at 30 rfl (hall 30 (by decide))
          have hbR:=hq.1
          clear hv hq hall
          simp only [mixF,List.contains_cons,List.contains_nil]
          go_simp
          have HB9:=Lib.hid (HB.out.trans (hbR.mono HB.out.size))
          clear hbR
          have hlt9:w5.heap.size≤w9.heap.size:=HB9.out.size
          clear hlt9
          obtain ⟨z0,z1,z2,-,-,-⟩:=HBX5.out w9 HB9.out
          go_wp2_with fail
          refine ⟨?_,?measure⟩
          case measure=>simp [intOf];omega
          (repeat apply Exists.intro)
          refine ⟨?rel,rfl⟩
          exact ⟨j+1,by push_cast;rfl,by omega,HB9.out⟩
      · have ej:j=N:=by omega
        subst ej
        clear hjN hj
        obtain ⟨g1,g2,g3,-⟩:=HF.out
        have hc0:=HCC.out wr HB.out 0 (by omega)
        have hcN:=HCC.out wr HB.out j (by omega)
        rw [g1,Nat.add_zero] at hc0
        rw [g2] at hcN
        obtain ⟨-,⟨_,_,_,e2,r2,-,-⟩,-⟩:=(HK.out wr (HB5.out.trans (HB.out.mono HB5.out.size))).2.1
        simp only [Value.slice.injEq] at e2
        obtain ⟨rfl,rfl,rfl⟩:=e2
        obtain ⟨b4,o4,rfl,hbk⟩:=r2.at n (by have:=HLM.out;omega)
        have hc1:=hbk.c1
        rw [show t.blocks.getD n noBlk=blkAt t.blocks n from rfl,show (blkAt t.blocks n).hgt=(j:Int) by omega] at hc1
        obtain ⟨z0,z1,z2,-,-,-⟩:=HBX5.out wr HB.out
        have hnm:n < m2:=by have:=HLM.out;omega
        have hlt:decide ((j:Int)+1 < (j:Int)+1)=false:=by simp
        have hwj:IntKind.i64.wrap (j:Int)=(j:Int):=IntWalk.i64_in _ (by omega)
        have hwj1:IntKind.i64.wrap ((j:Int)+1 - 1)=(j:Int):=(by rw [show (j:Int)+1 - 1=(j:Int) by omega];exact hwj)
        have hwj2:IntKind.i64.wrap ((j:Int)+1)=(j:Int)+1:=IntWalk.i64_in _ (by omega)
        have hjn1:(j:Int) < (j:Int)+1:=by omega
        have HBF:=Lib.hid (HK.out wr (HB5.out.trans (HB.out.mono HB5.out.size))).2.2
        clear g1 g2 g3 r2 hbk
        go_wp2_with fail
        go_ret
        exact ⟨rfl,HBF.out⟩
 · have hs':(1048576:Int) < (len:Int):=by omega
   clear h hlc
   go_enter Tryz.func7,Tryz.ntmps7
   go_wp2
   go_ret
   exact ⟨rfl,Below.refl _ _⟩
end Go.Proofs.YtolhdacbahgfgaaGreat
namespace Go.Proofs.YtolhdacbahgfgaaGreat.fnPathTo
open Go.ChangeShapes Go.WideShapes Go.ChangeAt Go.RowKit
set_option linter.unusedVariables false

theorem own : ownKnob Tryz.prog.godebug = none := by kernel_rfl
theorem laidOut : laidOutB Tryz.prog = true := by kernel_rfl

set_option maxRecDepth 100000 in
theorem lifted (os : Os) (started : os.Started) (H : Type) (enc : TypeId × Value → H) :
    ReturnsInHanded {} Tryz.checked os 7 .any (Rows.fnPathToSpec.pre6 enc Tryz.prog Tryz.f7 Rows.fnPathToRow.domain false) (Rows.fnPathToSpec.post enc Tryz.prog Tryz.f7 false true false false) := by
  refine returnsInHanded_of_change (C := Tryz.checked) own started (by kernel_rfl) Tryz.func7
    (ChangeSpec.witness6 (enc := enc) (C := Tryz.checked) false ⟨#[], #[.slice none 0 0], []⟩ 8 (by kernel_rfl) (by kernel_rfl) (by kernel_rfl) (by kernel_rfl)) ?_
  intro W base args ds gs before hval0 hW hcnd _
  have hval : ∀ (j : Nat) t v, Tryz.f7.params[j]? = some t → args[j]? = some v → Value.okWide Tryz.prog W .any base t v := hval0
  have hW' := hW
  obtain ⟨p, q, hA0, hV, rfl, hfz, hnd⟩ := hW
  have hA : DataW.TrodAll enc Tryz.prog W 0 (fun _ => true) true Tryz.f7.params.toList args.toList ds p := hA0
  rw [Tryz.params7] at hA hval
  obtain ⟨v0, vs0, d0, ds0, p0, q0, hargs, rfl, rfl, h0, r0⟩ := trodAll_cons hA
  obtain ⟨rfl, rfl, rfl⟩ := trodAll_nil r0
  obtain rfl : args = #[v0] := by cases args; simp_all
  obtain ⟨rfl, rfl⟩ := trodVars_none hV
  obtain ⟨a0, len0, cap0, rfl⟩ := okWide_slice Tryz.underlying52 (hval 0 52 v0 rfl rfl)
  have k0 := h0
  have lt0 : ∀ x ∈ p0, x.block < W.heap.size := by obtain ⟨m, hm⟩ := k0; exact DataW.trod_lt m _ _ _ hm
  obtain ⟨z0, w0, cz0, lc0⟩ := in_rowB h0
  clear hA0 hval0
  refine (lawPathTo a0 len0 cap0 z0 W w0 cz0 lc0).mono fun e W' ⟨he, bel⟩ => ?_
  subst he
  exact ⟨_, rfl, _, _, _, [], _, [], hW', trodAll_mk1 (shut_bool Tryz.underlying4 _), (trodAll_cons_mk (Below.trod laidOut (by kernel_rfl) (of_decide_eq_true (by kernel_rfl)) k0 bel lt0) trodAll_mk0), rfl, bel.frame _, fun h => by cases h⟩

set_option maxRecDepth 1000000 in
set_option maxHeartbeats 40000000 in
theorem closed : joinedFacts Tryz.pinned.checked.prog 7 Tryz.f7 Rows.fnPathToSpec Rows.fnPathToRow = true := by
  unfold joinedFacts
  repeat' (with_reducible refine (Bool.and_eq_true _ _).mpr ⟨?_, ?_⟩)
  all_goals (as_aux_lemma => kernel_rfl)

theorem over : Rows.fnPathToRow.holds Tryz.pinned (OpenSpec.ofChange Rows.fnPathToSpec) :=
  OpenClaim.holds_of_wide 7 Tryz.f7 rfl rfl rfl rfl rfl rfl rfl ⟨rfl, rfl, rfl, rfl, rfl⟩ rfl rfl rfl rfl rfl (by kernel_rfl) Tryz.func7 closed
    (of_decide_eq_true (by kernel_rfl)) (by unfold Func.isWrapper; first | (rw [if_pos (by decide +kernel)]; kernel_rfl) | (rw [if_neg (by decide +kernel)]; exact ⟨rfl, rfl⟩))
    (fun os started H enc _ => lifted os started H enc)

theorem proved : Rows.FnPathToSaid := over
end Go.Proofs.YtolhdacbahgfgaaGreat.fnPathTo

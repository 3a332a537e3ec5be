/- The contracts of the model's draws of blocks (gen18/drawbk.py). -/
import Derived.Test.YtolhdacbahgfgabDrawCt
import Derived.Test.YtolhdacbahgfgabDrT
import Derived.Test.YtolhdacbahgfgabTrX
import Derived.Test.YtolhdacbahgfgabSpT
namespace Go.Proofs.Ytolhdacbahgfgab
open Go.RowKit
set_option linter.unusedVariables false
set_option linter.unusedSimpArgs false
theorem tre_hold2 {w:World} {R b off n c:Nat} {v1 v3:Value} {t:Tre} (h:∀ W,Upd R w W→TreRd W v1 (.slice (some ⟨b,off,none⟩) n c) v3 t) (k:Nat) (hk:k < n):∃ a m e,BkHold R w b (off+k*6) (t.blocks.getD k noBlk) a m e∧(a=none→e=0):=by
 obtain ⟨a,m,e,hh⟩:=tre_hold h k hk
 refine ⟨a,m,e,hh,?_⟩
 obtain ⟨-,⟨a2,n2,c2,e2,r2,-,-⟩,-⟩:=h w (Upd.refl _ _)
 simp only [Value.slice.injEq] at e2
 obtain ⟨rfl,rfl,rfl⟩:=e2
 obtain ⟨b',off',e3,hb⟩:=r2.at k hk
 simp only [Option.some.injEq,Addr.mk.injEq] at e3
 obtain ⟨rfl,rfl,-⟩:=e3
 obtain ⟨v',hv',a',m',e',rfl,ra,hz,-⟩:=hb.c3
 have h3:=(hh w (Upd.refl _ _)).1.2.2.2.1
 rw [hv'] at h3
 simp only [Option.some.injEq,Value.slice.injEq] at h3
 obtain ⟨rfl,rfl,rfl⟩:=h3
 exact hz
def WdBk2 (R:Nat) (w:World) (b off m:Nat) (t:Tre):Wd R:=⟨fun v _=>∃ (k:Nat) (a:Option Addr) (n c:Nat),v = .agg #[.int .i64 (t.blocks.getD k noBlk).bef,.int .i64 (t.blocks.getD k noBlk).hgt,.int .i64 (t.blocks.getD k noBlk).view,.slice a n c,.int .i64 (t.blocks.getD k noBlk).root,.int .i64 (t.blocks.getD k noBlk).effs]∧k < m∧BkHold R w b (off+k*6) (t.blocks.getD k noBlk) a n c∧(a=none→c=0),fun _ _ _ h _=>h⟩
theorem BkAt.put5x {w:World} {Z:Nat} {v0 v1 v2 v3 v4 v5:Value} (h:BkAt w Z v0 v1 v2 v3 v4 v5) (x:Value):BkAt (w.setCell ⟨Z,5,none⟩ x) Z v0 v1 v2 v3 v4 x:=by
 constructor <;> simp [go_sem,h.c0,h.c1,h.c2,h.c3,h.c4,h.c5,h.f0,h.f1,h.f2,h.f3,h.f4,h.f5]
def DrawBk (w:World) (R P c:Nat) (en:Ending) (w':World):Prop :=
 ∃ p q r a n k t u L B,en = .returned (.agg #[.int .i64 p,.int .i64 q,.int .i64 r,.slice a n k,.int .i64 t,.int .i64 u])∧(w.heap.size < B∧R < B)∧w'.ownsRow B 38 4 (.slice a n k) L.length (flatA L)∧WfAs L∧L.length≤20∧Rd w' R (P+c)∧Upd R w w'
set_option maxRecDepth 100000 in
set_option maxHeartbeats 8000000 in
theorem l20Block_any (R P:Nat) (n:Int) (w:World) (h:Rd w R P) (hP:P≤300000) (hn0:0≤n) (hn:n≤1000) :
  Calls Try.prog 13 #[.pointer (some ⟨R,0,none⟩),.int .i64 n] w (DrawBk w R P 4200):=by
 have hRw:=h.lt
 have hu0:Upd R w (w.alloc (.cells #[.int .i64 0,.int .i64 0,.int .i64 0,.slice none 0 0,.int .i64 0,.int .i64 0] 25)):=(Upd.refl _ _).alloc _
 have hE0:=bkAt_new w 25 (.int .i64 0) (.int .i64 0) (.int .i64 0) (.slice none 0 0) (.int .i64 0) (.int .i64 0)
 have hr0:Rd (w.alloc (.cells #[.int .i64 0,.int .i64 0,.int .i64 0,.slice none 0 0,.int .i64 0,.int .i64 0] 25)) R P:=h.alloc _
 have hz0:(w.alloc (.cells #[.int .i64 0,.int .i64 0,.int .i64 0,.slice none 0 0,.int .i64 0,.int .i64 0] 25)).heap.size=w.heap.size+1:=by simp
 obtain ⟨w0,hw0⟩:∃ W1,W1=w.alloc (.cells #[.int .i64 0,.int .i64 0,.int .i64 0,.slice none 0 0,.int .i64 0,.int .i64 0] 25):=⟨_,rfl⟩
 have HW0:=Lib.hid hw0
 rw [← hw0] at hu0 hE0 hr0 hz0
 obtain ⟨E,hE⟩:∃ E,E=w.heap.size:=⟨_,rfl⟩
 have HEE:=Lib.hid hE
 rw [← hE] at hE0 hz0
 have hRE:R < E:=by omega
 clear hw0 h
 go_enter Try.func13,Try.ntmps13
 go_upto_region 1 with (fail)
 rw [← HW0.out]
 clear HW0
 rw [← hE]
 clear hE
 go_wp2_with fail
 refine (l20Tree_any R P 0 _ hr0 (by omega) (by omega) (by omega)).mono ?_;rintro e w1 ⟨v1,v2,v3,t,rfl,hrd,hsm,hr1,hu1⟩
 obtain ⟨⟨b1,m1,d1,rfl,-⟩,⟨b2,m2,d2,rfl,-⟩,b3,m3,d3,rfl,-⟩:=hrd w1 (fun _ _ _ _=>rfl)
 have hln:=treRd_len (hrd w1 (fun _ _ _ _=>rfl))
 have hm0:1≤m2:=by have:=hsm.one;omega
 have hm1:m2≤14:=by have:=hsm.most;omega
 have HBL:Hid (∀ k,k < m2→(t.blocks.getD k noBlk).acts.length≤10):=Lib.hid (fun k hk=>(hsm.blk _ (getD_memBk t.blocks k (by omega))).1)
 obtain ⟨b,off,rfl⟩:∃ b off,b2=some ⟨b,off,none⟩:=by
  obtain ⟨-,⟨a2,n2,c2,e2,r2,-,-⟩,-⟩:=hrd w1 (fun _ _ _ _=>rfl)
  simp only [Value.slice.injEq] at e2
  obtain ⟨rfl,rfl,rfl⟩:=e2
  obtain ⟨b',off',e3,-⟩:=r2.at 0 (by omega)
  exact ⟨b',off',e3⟩
 go_upto_region 2 with (fail)
 generalize hw2:World.alloc _ _=w2
 have hT2:TrAt w2 w1.heap.size (.slice b1 m1 d1) (.slice (some ⟨b,off,none⟩) m2 d2) (.slice b3 m3 d3):=by rw [← hw2];exact trAt_new w1 _ _ _ _
 have hr2:Rd w2 R (P+4000):=by rw [← hw2];exact hr1.alloc _
 have hu12:Upd R w1 w2:=by rw [← hw2];exact (Upd.refl _ _).alloc _
 have HHD:=Lib.hid (tre_hold2 (w:=w2) (R:=R) (fun W hu=>hrd W (fun k hk0 hk1 hk2=>(hu12.trans hu).block k hk1 (by simp;exact hk2))))
 have hs1:=hu1.size
 obtain ⟨G,hG⟩:∃ G,G=w1.heap.size:=⟨_,rfl⟩
 rw [← hG] at hT2 ⊢
 have hRG:R < G:=by omega
 have HBX:=Lib.hid (fun (W:World) (hu:Upd R w2 W)=>hT2.upd hu (by omega))
 have HEX:=Lib.hid (fun (W:World) (hu:Upd R w2 W)=>hE0.updT ((hu1.trans hu12).trans hu) (by omega))
 have HU2:=Lib.hid ((hu0.trans hu1).trans hu12)
 have hsE:E < w2.heap.size:=by have:=hu12.size;omega
 obtain ⟨P2,hP2⟩:∃ p,p=P+4000:=⟨_,rfl⟩
 have HP2:=Lib.hid hP2
 rw [← hP2] at hr2
 have hP2b:P2≤304000:=by omega
 have hRw2:=hr2.lt
 clear hw2 hT2 hr1 hu12 hrd hsm hln hu1 hs1 hG hP2 hE0 hu0 hr0 hz0 hP hRw
 refine wp_region_light (by kernel_rfl) (StoJ (fun lz fz wz=>WdJ R w2 (P2) [(6,1)] [(0,9,Wd.is R (.pointer (some ⟨G,1,none⟩))),(1,10,Wd.is R (.slice (some ⟨b,off,none⟩) m2 d2)),(2,11,Wd.is R (.pointer (some ⟨R,0,none⟩))),(3,12,Wd.is R (.pointer (some ⟨G,1,none⟩))),(4,13,Wd.is R (.slice (some ⟨b,off,none⟩) m2 d2)),(5,14,Wd.is R (.int .i64 (m2:Int))),(6,15,WdIx R m2),(7,16,WdPl R b off m2),(8,17,WdBk2 R w2 b off m2 t),(9,6,WdBox R w2)] lz fz wz∧ClJ [(1,[0]),(4,[3]),(5,[4]),(6,[2,5]),(7,[1,6]),(8,[7])] lz) (fun lz fz wz=>(∀ i,i < 10→lz i=true)∧∃ Zb k a n c,fz 6 = .pointer (some ⟨Zb,0,none⟩)∧w2.heap.size≤Zb∧BkAt wz Zb (.int .i64 (t.blocks.getD k noBlk).bef) (.int .i64 (t.blocks.getD k noBlk).hgt) (.int .i64 (t.blocks.getD k noBlk).view) (.slice a n c) (.int .i64 (t.blocks.getD k noBlk).root) (.int .i64 (t.blocks.getD k noBlk).effs)∧k < m2∧BkHold R w2 b (off+k*6) (t.blocks.getD k noBlk) a n c∧(a=none→c=0)∧Upd R w2 wz∧Rd wz R (P2+1)) 10) 59 rfl [9,10,11,12,13,14,15,16,17,6] (by kernel_rfl) (by kernel_rfl) (by kernel_rfl) (fun f=>StoJ.nothing ⟨WdJ.nothing _ _ f hr2,ClJ.nothing _⟩) ?_ ?_
 · intro i hi
   rcases (by have:i < 11:=hi;omega:i=0∨i=1∨i=2∨i=3∨i=4∨i=5∨i=6∨i=7∨i=8∨i=9∨i=10) with rfl | rfl | rfl | rfl | rfl | rfl | rfl | rfl | rfl | rfl | rfl
   all_goals (clear hi;intro o ho lz fz w' A hJ0 hli ha hA K hK;obtain rfl:=Option.some.inj ho;clear ho)
   · have hM:=hJ0.ahead hli (fun hq=>hq.1 0 (by decide))
     obtain ⟨hJ,hC⟩:=hJ0.1 hM
     have hbd:=costOf_le [(6,1)] lz
     simp only [List.map_cons,List.map_nil,List.sum_cons,List.sum_nil] at hbd
     have g5:=slot_out hA 5 _ (by decide) (by decide) rfl
     simp only [List.getD_cons_succ,List.getD_cons_zero] at g5
     have gg5:=slot_get g5
     rw [if_pos (by rfl)]
     have hF:=hK (.pointer (some ⟨G,1,none⟩)) w' (StoJ.step 0 (by decide) hM ⟨hJ.step 0 0 9 (.pointer (some ⟨G,1,none⟩)) rfl rfl rfl (Upd.refl _ _) (hJ.same 0 hJ.rd) rfl,hC.step 0 (by simp)⟩)
     clear hJ hJ0 ha hK hA hli hbd hC hM
     go_simp
     exact hF
   · have hM:=hJ0.ahead hli (fun hq=>hq.1 1 (by decide))
     obtain ⟨hJ,hC⟩:=hJ0.1 hM
     have hbd:=costOf_le [(6,1)] lz
     simp only [List.map_cons,List.map_nil,List.sum_cons,List.sum_nil] at hbd
     have g9:=si hA 9 (hJ.at 0 rfl (ha 0 (by simp [aftersOf,Region.binds])))
     have gg9:=slot_get g9
     rw [if_pos (by rfl)]
     obtain ⟨z0,z1,z2,-,-,-⟩:=HBX.out w' hJ.upd
     have hF:=hK (.slice (some ⟨b,off,none⟩) m2 d2) w' (StoJ.step 1 (by decide) hM ⟨hJ.step 1 1 10 (.slice (some ⟨b,off,none⟩) m2 d2) rfl rfl rfl (Upd.refl _ _) (hJ.same 1 hJ.rd) rfl,hC.step 1 (by simp [ha 0 (by simp [aftersOf,Region.binds])])⟩)
     clear hJ hJ0 ha hK hA hli hbd hC hM
     go_simp
     exact hF
   · have hM:=hJ0.ahead hli (fun hq=>hq.1 2 (by decide))
     obtain ⟨hJ,hC⟩:=hJ0.1 hM
     have hbd:=costOf_le [(6,1)] lz
     simp only [List.map_cons,List.map_nil,List.sum_cons,List.sum_nil] at hbd
     have g0:=slot_out hA 0 _ (by decide) (by decide) rfl
     simp only [List.getD_cons_succ,List.getD_cons_zero] at g0
     have gg0:=slot_get g0
     rw [if_pos (by rfl)]
     have hF:=hK (.pointer (some ⟨R,0,none⟩)) w' (StoJ.step 2 (by decide) hM ⟨hJ.step 2 2 11 (.pointer (some ⟨R,0,none⟩)) rfl rfl rfl (Upd.refl _ _) (hJ.same 2 hJ.rd) rfl,hC.step 2 (by simp)⟩)
     clear hJ hJ0 ha hK hA hli hbd hC hM
     go_simp
     exact hF
   · have hM:=hJ0.ahead hli (fun hq=>hq.1 3 (by decide))
     obtain ⟨hJ,hC⟩:=hJ0.1 hM
     have hbd:=costOf_le [(6,1)] lz
     simp only [List.map_cons,List.map_nil,List.sum_cons,List.sum_nil] at hbd
     have g5:=slot_out hA 5 _ (by decide) (by decide) rfl
     simp only [List.getD_cons_succ,List.getD_cons_zero] at g5
     have gg5:=slot_get g5
     rw [if_pos (by rfl)]
     have hF:=hK (.pointer (some ⟨G,1,none⟩)) w' (StoJ.step 3 (by decide) hM ⟨hJ.step 3 3 12 (.pointer (some ⟨G,1,none⟩)) rfl rfl rfl (Upd.refl _ _) (hJ.same 3 hJ.rd) rfl,hC.step 3 (by simp)⟩)
     clear hJ hJ0 ha hK hA hli hbd hC hM
     go_simp
     exact hF
   · have hM:=hJ0.ahead hli (fun hq=>hq.1 4 (by decide))
     obtain ⟨hJ,hC⟩:=hJ0.1 hM
     have hbd:=costOf_le [(6,1)] lz
     simp only [List.map_cons,List.map_nil,List.sum_cons,List.sum_nil] at hbd
     have g12:=si hA 12 (hJ.at 3 rfl (ha 3 (by simp [aftersOf,Region.binds])))
     have gg12:=slot_get g12
     rw [if_pos (by rfl)]
     obtain ⟨z0,z1,z2,-,-,-⟩:=HBX.out w' hJ.upd
     have hF:=hK (.slice (some ⟨b,off,none⟩) m2 d2) w' (StoJ.step 4 (by decide) hM ⟨hJ.step 4 4 13 (.slice (some ⟨b,off,none⟩) m2 d2) rfl rfl rfl (Upd.refl _ _) (hJ.same 4 hJ.rd) rfl,hC.step 4 (by simp [ha 3 (by simp [aftersOf,Region.binds])])⟩)
     clear hJ hJ0 ha hK hA hli hbd hC hM
     go_simp
     exact hF
   · have hM:=hJ0.ahead hli (fun hq=>hq.1 5 (by decide))
     obtain ⟨hJ,hC⟩:=hJ0.1 hM
     have hbd:=costOf_le [(6,1)] lz
     simp only [List.map_cons,List.map_nil,List.sum_cons,List.sum_nil] at hbd
     have g13:=si hA 13 (hJ.at 4 rfl (ha 4 (by simp [aftersOf,Region.binds])))
     have gg13:=slot_get g13
     rw [if_pos (by rfl)]
     have hF:=hK (.int .i64 (m2:Int)) w' (StoJ.step 5 (by decide) hM ⟨hJ.step 5 5 14 (.int .i64 (m2:Int)) rfl rfl rfl (Upd.refl _ _) (hJ.same 5 hJ.rd) rfl,hC.step 5 (by simp [ha 4 (by simp [aftersOf,Region.binds])])⟩)
     clear hJ hJ0 ha hK hA hli hbd hC hM
     go_simp
     exact hF
   · have hM:=hJ0.ahead hli (fun hq=>hq.1 6 (by decide))
     obtain ⟨hJ,hC⟩:=hJ0.1 hM
     have hbd:=costOf_le [(6,1)] lz
     simp only [List.map_cons,List.map_nil,List.sum_cons,List.sum_nil] at hbd
     have g11:=si hA 11 (hJ.at 2 rfl (ha 2 (by simp [aftersOf,Region.binds])))
     have g14:=si hA 14 (hJ.at 5 rfl (ha 5 (by simp [aftersOf,Region.binds])))
     have gg11:=slot_get g11
     have gg14:=slot_get g14
     rw [if_pos (by rfl)]
     clear hA
     go_simp
     refine (pick_pos R _ (m2:Int) w' hJ.rd (by omega) (by omega) (by omega)).mono ?_
     rintro e9 w9 ⟨x9,rfl,h90,h91,hr9,hu9⟩
     obtain ⟨k9,rfl⟩:∃ k:Nat,x9=k:=⟨x9.toNat,by omega⟩
     exact hK _ w9 (StoJ.step 6 (by decide) hM ⟨hJ.step 6 6 15 (.int .i64 (k9:Int)) rfl rfl rfl hu9 (hJ.asked 6 (by simp) hli hr9) ⟨k9,rfl,by omega⟩,hC.step 6 (by simp [ha 2 (by simp [aftersOf,Region.binds]),ha 5 (by simp [aftersOf,Region.binds])])⟩)
   · have hM:=hJ0.ahead hli (fun hq=>hq.1 7 (by decide))
     obtain ⟨hJ,hC⟩:=hJ0.1 hM
     have hbd:=costOf_le [(6,1)] lz
     simp only [List.map_cons,List.map_nil,List.sum_cons,List.sum_nil] at hbd
     have g10:=si hA 10 (hJ.at 1 rfl (ha 1 (by simp [aftersOf,Region.binds])))
     obtain ⟨k15,hx15,hl15⟩:=hJ.at 6 rfl (ha 6 (by simp [aftersOf,Region.binds]))
     have g15:=si hA 15 hx15
     have gg10:=slot_get g10
     have gg15:=slot_get g15
     rw [if_pos (by rfl)]
     have hF:=hK (.pointer (some ⟨b,off+k15*6,none⟩)) w' (StoJ.step 7 (by decide) hM ⟨hJ.step 7 7 16 (.pointer (some ⟨b,off+k15*6,none⟩)) rfl rfl rfl (Upd.refl _ _) (hJ.same 7 hJ.rd) ⟨k15,rfl,hl15⟩,hC.step 7 (by simp [ha 1 (by simp [aftersOf,Region.binds]),ha 6 (by simp [aftersOf,Region.binds])])⟩)
     clear hJ hJ0 ha hK hA hli hbd hC hM
     go_simp
     exact hF
   · have hM:=hJ0.ahead hli (fun hq=>hq.1 8 (by decide))
     obtain ⟨hJ,hC⟩:=hJ0.1 hM
     have hbd:=costOf_le [(6,1)] lz
     simp only [List.map_cons,List.map_nil,List.sum_cons,List.sum_nil] at hbd
     obtain ⟨k16,hx16,hl16⟩:=hJ.at 7 rfl (ha 7 (by simp [aftersOf,Region.binds]))
     have g16:=si hA 16 hx16
     have gg16:=slot_get g16
     rw [if_pos (by rfl)]
     obtain ⟨a16,n16,c16,hh16,hz16⟩:=HHD.out k16 hl16
     obtain ⟨⟨q0,q1,q2,q3,q4,q5⟩,-⟩:=hh16 w' hJ.upd
     have hF:=hK (.agg #[.int .i64 (t.blocks.getD k16 noBlk).bef,.int .i64 (t.blocks.getD k16 noBlk).hgt,.int .i64 (t.blocks.getD k16 noBlk).view,.slice a16 n16 c16,.int .i64 (t.blocks.getD k16 noBlk).root,.int .i64 (t.blocks.getD k16 noBlk).effs]) w' (StoJ.step 8 (by decide) hM ⟨hJ.step 8 8 17 (.agg #[.int .i64 (t.blocks.getD k16 noBlk).bef,.int .i64 (t.blocks.getD k16 noBlk).hgt,.int .i64 (t.blocks.getD k16 noBlk).view,.slice a16 n16 c16,.int .i64 (t.blocks.getD k16 noBlk).root,.int .i64 (t.blocks.getD k16 noBlk).effs]) rfl rfl rfl (Upd.refl _ _) (hJ.same 8 hJ.rd) ⟨k16,a16,n16,c16,rfl,hl16,hh16,hz16⟩,hC.step 8 (by simp [ha 7 (by simp [aftersOf,Region.binds])])⟩)
     clear hJ hJ0 ha hK hA hli hbd hC hM
     go_simp
     exact hF
   · have hM:=hJ0.ahead hli (fun hq=>hq.1 9 (by decide))
     obtain ⟨hJ,hC⟩:=hJ0.1 hM
     have hbd:=costOf_le [(6,1)] lz
     simp only [List.map_cons,List.map_nil,List.sum_cons,List.sum_nil] at hbd
     rw [if_pos (by rfl)]
     have hF:=hK (.pointer (some ⟨w'.heap.size,0,none⟩)) (w'.alloc (.cells #[.int .i64 0,.int .i64 0,.int .i64 0,.slice none 0 0,.int .i64 0,.int .i64 0] 25)) (StoJ.step 9 (by decide) hM ⟨hJ.step 9 9 6 (.pointer (some ⟨w'.heap.size,0,none⟩)) rfl rfl rfl ((Upd.refl _ _).alloc _) (hJ.same 9 (hJ.rd.alloc _)) ⟨_,rfl,hJ.upd.size,hJ.rd.lt,bkAt_new w' _ _ _ _ _ _ _⟩,hC.step 9 (by simp)⟩)
     clear hJ hJ0 ha hK hA hli hbd hC hM
     go_simp
     exact hF
   · obtain ⟨hJ,hC⟩:=hJ0.1 hli
     have hbd:=costOf_le [(6,1)] lz
     simp only [List.map_cons,List.map_nil,List.sum_cons,List.sum_nil] at hbd
     obtain ⟨Z6,hx6,hZ6,hR6,hb6⟩:=hJ.at 9 rfl (ha 9 (by simp [aftersOf,Region.binds]))
     have g6:=si hA 6 hx6
     obtain ⟨k17,a17,n17,c17,hx17,hl17,hh17,hz17⟩:=hJ.at 8 rfl (ha 8 (by simp [aftersOf,Region.binds]))
     have g17:=si hA 17 hx17
     have gg6:=slot_get g6
     have gg17:=slot_get g17
     rw [if_pos (by rfl)]
     have l9:lz 9=true:=ha 9 (by simp [aftersOf,Region.binds])
     have l8:lz 8=true:=ha 8 (by simp [aftersOf,Region.binds])
     have l7:lz 7=true:=hC (8,[7]) (by simp) l8 7 (by simp)
     have l1:lz 1=true:=hC (7,[1,6]) (by simp) l7 1 (by simp)
     have l0:lz 0=true:=hC (1,[0]) (by simp) l1 0 (by simp)
     have l6:lz 6=true:=hC (7,[1,6]) (by simp) l7 6 (by simp)
     have l2:lz 2=true:=hC (6,[2,5]) (by simp) l6 2 (by simp)
     have l5:lz 5=true:=hC (6,[2,5]) (by simp) l6 5 (by simp)
     have l4:lz 4=true:=hC (5,[4]) (by simp) l5 4 (by simp)
     have l3:lz 3=true:=hC (4,[3]) (by simp) l4 3 (by simp)
     have hall:∀ i,i < 11→(i == 10 || lz i)=true:=fun i hi =>by
      rcases (by omega:i=0∨i=1∨i=2∨i=3∨i=4∨i=5∨i=6∨i=7∨i=8∨i=9∨i=10) with rfl | rfl | rfl | rfl | rfl | rfl | rfl | rfl | rfl | rfl | rfl <;> simp [*]
     have hbf:=hb6.set6 (.int .i64 (t.blocks.getD k17 noBlk).bef) (.int .i64 (t.blocks.getD k17 noBlk).hgt) (.int .i64 (t.blocks.getD k17 noBlk).view) (.slice a17 n17 c17) (.int .i64 (t.blocks.getD k17 noBlk).root) (.int .i64 (t.blocks.getD k17 noBlk).effs)
     have hupd:Upd R w2 ((((((w'.setCell ⟨Z6,0,none⟩ (.int .i64 (t.blocks.getD k17 noBlk).bef)).setCell ⟨Z6,1,none⟩ (.int .i64 (t.blocks.getD k17 noBlk).hgt)).setCell ⟨Z6,2,none⟩ (.int .i64 (t.blocks.getD k17 noBlk).view)).setCell ⟨Z6,3,none⟩ (.slice a17 n17 c17)).setCell ⟨Z6,4,none⟩ (.int .i64 (t.blocks.getD k17 noBlk).root)).setCell ⟨Z6,5,none⟩ (.int .i64 (t.blocks.getD k17 noBlk).effs)):=(((((hJ.upd.setNewT hZ6).setNewT hZ6).setNewT hZ6).setNewT hZ6).setNewT hZ6).setNewT hZ6
     have hrd:=(((((((hJ.rd.mono (show _≤P2+1 by omega)).setT (o:=0) (v:=.int .i64 (t.blocks.getD k17 noBlk).bef) hR6).setT (o:=1) (v:=.int .i64 (t.blocks.getD k17 noBlk).hgt) hR6).setT (o:=2) (v:=.int .i64 (t.blocks.getD k17 noBlk).view) hR6).setT (o:=3) (v:=.slice a17 n17 c17) hR6).setT (o:=4) (v:=.int .i64 (t.blocks.getD k17 noBlk).root) hR6).setT (o:=5) (v:=.int .i64 (t.blocks.getD k17 noBlk).effs) hR6)
     obtain ⟨z0,z1,z2,z3,z4,z5,f0,f1,f2,f3,f4,f5⟩:=hb6
     have hF:=hK undef _ (StoJ.at ⟨fun i hi=>hall i (by omega),_,k17,a17,n17,c17,by simpa using hx6,hZ6,hbf,hl17,hh17,hz17,hupd,hrd⟩)
     clear hJ hJ0 ha hK hA hli hbd hC hall hupd hrd hbf
     go_simp
     exact hF
 intro lz fz w5 hall hJ
 obtain ⟨hq0,Z6,k,a,nn,c,hx6,hZ6,hb6,hk,hh,hza,hu5,hr5⟩:=hJ.2 (hall 10 (by decide))
 have hYL:=HBL.out k hk
 obtain ⟨y,hy⟩:∃ y,y=t.blocks.getD k noBlk:=⟨_,rfl⟩
 rw [← hy] at hb6 hh hYL
 have hZ6R:R < Z6:=by omega
 have hra5:=(hh w5 hu5).2
 have HU5:=Lib.hid hu5
 have HR5:=Lib.hid hr5
 have HYL:Hid (y.acts.length≤20):=Lib.hid (by omega)
 have HRA:=Lib.hid hra5
 have HB5:=Lib.hid hb6
 have hnn:nn≤10:=by have:=hra5.1;omega
 have hZ6l:=hb6.lt
 clear hJ hall hq0 hh hy hu5 hr5 hr2 hb6 hra5 hYL HHD HBL HBX
 simp only [mixF,List.contains_cons,List.contains_nil]
 go_simp
 clear hx6
 have HNW:Hid (a=none→nn=0∧c=0):=Lib.hid (fun he=>by
  refine ⟨?_,hza he⟩
  rcases Nat.eq_zero_or_pos nn with h | h
  · exact h
  · obtain ⟨b1,o1,h3,_⟩:=HRA.out.2.2.1 h
    rw [he] at h3;cases h3)
 have HLW:Hid ((flatA y.acts).length=nn*4):=Lib.hid (by rw [flatA_len,HRA.out.1])
 have ho:=own_lit (w:=w5) (B:=w5.heap.size) 38 4 #[] 0 (Nat.le_refl _) (by unfold maxLen;omega) rfl
 have hb5:=(Below.refl w5.heap.size w5).alloc (Nat.le_refl _) (.cells #[] 38)
 have HRL:=Lib.hid (HRA.out.below hb5)
 obtain ⟨-,-,-,y3,-,-,-,-,-,g3,-,-⟩:=HB5.out.below hb5
 go_upto_region 4 with (first | (at_builtin;refine wpList_append_rows rfl _ _ 23 rfl w5.heap.size 38 (.agg #[.int .i64 0,.int .i64 0,.int .i64 0,.int .i64 0]) 4 32 Try.underlying23 infoActT rfl (by decide) _ 0 [] (flatA y.acts) (by rfl) ho a nn c (by rfl) HNW.out HLW.out HRL.out.news (flatA_one _) (by omega) (by decide) (by simp) ?_;intro v6 w6 ho6 hg6;have hb56:=hb5.grown hg6 (by simp) (fun q hq=>(ho.1.lt q hq).1);obtain ⟨-,-,-,yy3,-,-,-,-,-,gg3,-,-⟩:=HB5.out.below hb56;obtain ⟨e1,e2,e3,he⟩:=slice_form ho6.1;rw [he];rw [he] at ho6))
 rw [Nat.zero_add,List.nil_append] at ho6
 have hnb:nn=y.acts.length:=HRA.out.1.symm
 rw [hnb] at ho6
 have HWA:Hid (WfAs y.acts):=Lib.hid HRA.out.2.2.2
 have hs5:=HU5.out.size
 have hRB7:R < w5.heap.size:=by have:=HR5.out.lt;omega
 have hEB:E < w5.heap.size:=by omega
 have hnZ:Value.ownBlock (.slice e1 e2 e3)≠some Z6:=fun e=>by have:=(ho6.1.lt _ e).1;omega
 have hb7:=(HB5.out.below hb56).put3' (.slice e1 e2 e3)
 have ho7:=owns_set ho6.1 hnZ 3 (.slice e1 e2 e3)
 have hu7:=(HU5.out.trans (Upd.ofBelow R hb56)).setNewT (o:=3) (v:=.slice e1 e2 e3) hZ6
 have hr7:=(HR5.out.below hb56).setT (o:=3) (v:=.slice e1 e2 e3) hZ6R
 have hZ62:=hZ6
 generalize hww:World.setCell w6 _ _=w7 at hb7 ho7 hu7 hr7 ⊢
 clear hww ho ho6 hg6 he hb5 hb56 y3 g3 yy3 gg3 HRL HB5 HRA HNW HLW HU5 HR5 hnb hza
 have HFIN:=Lib.hid (fun (F:World) (p q r:Int) (a9:Option Addr) (n9 c9:Nat) (t' u:Int) (L:List Acn) (B:Nat) (ho:F.ownsRow B 38 4 (.slice a9 n9 c9) L.length (flatA L)) (hw:WfAs L) (hl:L.length≤20) (hu:Upd R w2 F) (hr:Rd F R (P2+200)) (hB:E < B∧R < B)=>(by
  have hno:Value.ownBlock (.slice a9 n9 c9)≠some E:=fun e=>by have:=(ho.lt _ e).1;omega
  exact ⟨p,q,r,a9,n9,c9,t',u,L,B,rfl,by have:=HEE.out;omega,owns_set6 ho hno _ _ _ _ _ _,hw,hl,by rw [HP2.out] at hr;exact (((((hr.setT hRE).setT hRE).setT hRE).setT hRE).setT hRE).setT hRE,by
   have hE0:w.heap.size≤E:=by have:=HEE.out;omega
   exact ((((((HU2.out.trans hu).setNewT hE0).setNewT hE0).setNewT hE0).setNewT hE0).setNewT hE0).setNewT hE0⟩:DrawBk w R P 4200 (.returned (.agg #[.int .i64 p,.int .i64 q,.int .i64 r,.slice a9 n9 c9,.int .i64 t',.int .i64 u])) ((((((F.setCell ⟨E,0,none⟩ (.int .i64 p)).setCell ⟨E,1,none⟩ (.int .i64 q)).setCell ⟨E,2,none⟩ (.int .i64 r)).setCell ⟨E,3,none⟩ (.slice a9 n9 c9)).setCell ⟨E,4,none⟩ (.int .i64 t')).setCell ⟨E,5,none⟩ (.int .i64 u))))
 go_wp2_with fail
 refine (odd_any R _ n _ hr7 (by omega) (by omega) hn0).mono ?_;rintro e wA ⟨xA,rfl,hrA,huA⟩
 have hbA:=hb7.updT huA (by omega)
 have hoA:=owns_updT ho7 huA hRB7
 have hu2A:=hu7.trans huA
 clear hb7 ho7 hu7 hr7 huA
 cases xA with
 | false =>
  have hE:=HEX.out wA hu2A
  have HF:=Lib.hid (hE.set6 (.int .i64 y.bef) (.int .i64 y.hgt) (.int .i64 y.view) (.slice e1 e2 e3) (.int .i64 y.root) (.int .i64 y.effs))
  have HRET:=Lib.hid (HFIN.out wA y.bef y.hgt y.view e1 e2 e3 y.root y.effs y.acts w5.heap.size hoA HWA.out HYL.out hu2A (hrA.mono (by omega)) (by omega))
  obtain ⟨e0,e1,e2,e3,e4,e5,f0,f1,f2,f3,f4,f5⟩:=hE
  obtain ⟨c0,c1,c2,c3,c4,c5,-⟩:=hbA
  clear hu2A hrA hoA HFIN HEX
  go_wp2_with fail
  exact bodyPost_ret (results_blk Try.results13 _ (by rfl) HF.out) rfl HRET.out
 | true =>
  go_wp2_with fail
  refine (pick_pos R _ 5 _ hrA (by omega) (by omega) (by omega)).mono ?_;rintro e wB ⟨xB,rfl,hB0,hB1,hrB,huB⟩
  have hbB:=hbA.updT huB (by omega)
  have hoB:=owns_updT hoA huB hRB7
  have hu2B:=hu2A.trans huB
  clear hbA hoA hu2A hrA huB
  rcases (by omega:xB=0∨xB=1∨xB=2∨xB=3∨xB=4) with rfl | rfl | rfl | rfl | rfl
  · skip
    have HP:=Lib.hid (pick_pos R _ 2 (wB.alloc (.cells #[.int .i64 (-1),.int .i64 1000003] 3)) (hrB.alloc _) (by omega) (by omega) (by omega))
    have ha0:(wB.alloc (.cells #[.int .i64 (-1),.int .i64 1000003] 3)).cell? ⟨wB.heap.size,0,none⟩=some (.int .i64 (-1)):=by simp [go_sem]
    have ha1:(wB.alloc (.cells #[.int .i64 (-1),.int .i64 1000003] 3)).cell? ⟨wB.heap.size,1,none⟩=some (.int .i64 (1000003)):=by simp [go_sem]
    have hRB:=hrB.lt
    have hbC0:=hbB.updT ((Upd.refl R wB).alloc (.cells #[.int .i64 (-1),.int .i64 1000003] 3)) (by omega)
    have hoC0:=owns_updT hoB ((Upd.refl R wB).alloc (.cells #[.int .i64 (-1),.int .i64 1000003] 3)) hRB7
    have huC0:=hu2B.alloc (.cells #[.int .i64 (-1),.int .i64 1000003] 3)
    clear hbB hu2B hrB hoB
    go_wp2_with fail
    refine HP.out.mono ?_;rintro e wC ⟨xi,rfl,hi0,hi1,hrC,huC⟩
    obtain ⟨j,rfl⟩:∃ j:Nat,xi=j:=⟨xi.toNat,by omega⟩
    obtain ⟨z,hz⟩:∃ z:Int,wC.cell? ⟨wB.heap.size,j,none⟩=some (.int .i64 z):=by
     rcases (by omega:j=0∨j=1) with rfl | rfl
     · exact ⟨_,huC.cell ha0 (by omega)⟩
     · exact ⟨_,huC.cell ha1 (by omega)⟩
    have hbC:=hbC0.updT huC (by omega)
    have hoC:=owns_updT hoC0 huC hRB7
    have hu2C:=huC0.trans huC
    clear ha0 ha1 hRB hbC0 huC0 hoC0 huC HP
    obtain ⟨B8,hB8⟩:∃ B8,B8=wB.heap.size:=⟨_,rfl⟩
    rw [← hB8] at hz ⊢
    clear hB8
    have hbD:=hbC.put4D (.int .i64 z)
    have hoD:=owns_set hoC hnZ 4 (.int .i64 z)
    have hu2D:=hu2C.setNewT (o:=4) (v:=.int .i64 z) hZ62
    have hrD:=hrC.setT (o:=4) (v:=.int .i64 z) hZ6R
    obtain ⟨c0,c1,c2,c3,c4,c5,f0,f1,f2,f3,f4,f5⟩:=hbC
    go_upto_region 15 with (fail)
    clear c0 c1 c2 c3 c4 c5 f0 f1 f2 f3 f4 f5 hz
    generalize hww:World.setCell wC _ _=wD at hbD hoD hu2D hrD ⊢
    clear hww hrC hu2C hoC
    have hE:=HEX.out wD hu2D
    have HF:=Lib.hid (hE.set6 (.int .i64 y.bef) (.int .i64 y.hgt) (.int .i64 y.view) (.slice e1 e2 e3) (.int .i64 z) (.int .i64 y.effs))
    have HRET:=Lib.hid (HFIN.out wD y.bef y.hgt y.view e1 e2 e3 z y.effs y.acts w5.heap.size hoD HWA.out HYL.out hu2D (hrD.mono (by omega)) (by omega))
    obtain ⟨e0,e1,e2,e3,e4,e5,f0,f1,f2,f3,f4,f5⟩:=hE
    obtain ⟨c0,c1,c2,c3,c4,c5,-⟩:=hbD
    clear hu2D hrD hoD HFIN HEX
    go_wp2_with fail
    exact bodyPost_ret (results_blk Try.results13 _ (by rfl) HF.out) rfl HRET.out
  · skip
    have HP:=Lib.hid (pick_pos R _ 2 (wB.alloc (.cells #[.int .i64 (-1),.int .i64 1001] 3)) (hrB.alloc _) (by omega) (by omega) (by omega))
    have ha0:(wB.alloc (.cells #[.int .i64 (-1),.int .i64 1001] 3)).cell? ⟨wB.heap.size,0,none⟩=some (.int .i64 (-1)):=by simp [go_sem]
    have ha1:(wB.alloc (.cells #[.int .i64 (-1),.int .i64 1001] 3)).cell? ⟨wB.heap.size,1,none⟩=some (.int .i64 (1001)):=by simp [go_sem]
    have hRB:=hrB.lt
    have hbC0:=hbB.updT ((Upd.refl R wB).alloc (.cells #[.int .i64 (-1),.int .i64 1001] 3)) (by omega)
    have hoC0:=owns_updT hoB ((Upd.refl R wB).alloc (.cells #[.int .i64 (-1),.int .i64 1001] 3)) hRB7
    have huC0:=hu2B.alloc (.cells #[.int .i64 (-1),.int .i64 1001] 3)
    clear hbB hu2B hrB hoB
    go_wp2_with fail
    refine HP.out.mono ?_;rintro e wC ⟨xi,rfl,hi0,hi1,hrC,huC⟩
    obtain ⟨j,rfl⟩:∃ j:Nat,xi=j:=⟨xi.toNat,by omega⟩
    obtain ⟨z,hz⟩:∃ z:Int,wC.cell? ⟨wB.heap.size,j,none⟩=some (.int .i64 z):=by
     rcases (by omega:j=0∨j=1) with rfl | rfl
     · exact ⟨_,huC.cell ha0 (by omega)⟩
     · exact ⟨_,huC.cell ha1 (by omega)⟩
    have hbC:=hbC0.updT huC (by omega)
    have hoC:=owns_updT hoC0 huC hRB7
    have hu2C:=huC0.trans huC
    clear ha0 ha1 hRB hbC0 huC0 hoC0 huC HP
    obtain ⟨B8,hB8⟩:∃ B8,B8=wB.heap.size:=⟨_,rfl⟩
    rw [← hB8] at hz ⊢
    clear hB8
    have hbD:=hbC.put2 (.int .i64 z)
    have hoD:=owns_set hoC hnZ 2 (.int .i64 z)
    have hu2D:=hu2C.setNewT (o:=2) (v:=.int .i64 z) hZ62
    have hrD:=hrC.setT (o:=2) (v:=.int .i64 z) hZ6R
    obtain ⟨c0,c1,c2,c3,c4,c5,f0,f1,f2,f3,f4,f5⟩:=hbC
    go_upto_region 15 with (fail)
    clear c0 c1 c2 c3 c4 c5 f0 f1 f2 f3 f4 f5 hz
    generalize hww:World.setCell wC _ _=wD at hbD hoD hu2D hrD ⊢
    clear hww hrC hu2C hoC
    have hE:=HEX.out wD hu2D
    have HF:=Lib.hid (hE.set6 (.int .i64 y.bef) (.int .i64 y.hgt) (.int .i64 z) (.slice e1 e2 e3) (.int .i64 y.root) (.int .i64 y.effs))
    have HRET:=Lib.hid (HFIN.out wD y.bef y.hgt z e1 e2 e3 y.root y.effs y.acts w5.heap.size hoD HWA.out HYL.out hu2D (hrD.mono (by omega)) (by omega))
    obtain ⟨e0,e1,e2,e3,e4,e5,f0,f1,f2,f3,f4,f5⟩:=hE
    obtain ⟨c0,c1,c2,c3,c4,c5,-⟩:=hbD
    clear hu2D hrD hoD HFIN HEX
    go_wp2_with fail
    exact bodyPost_ret (results_blk Try.results13 _ (by rfl) HF.out) rfl HRET.out
  · skip
    have HP:=Lib.hid (pick_pos R _ 3 (wB.alloc (.cells #[.int .i64 (-1),.int .i64 101,.int .i64 100] 3)) (hrB.alloc _) (by omega) (by omega) (by omega))
    have ha0:(wB.alloc (.cells #[.int .i64 (-1),.int .i64 101,.int .i64 100] 3)).cell? ⟨wB.heap.size,0,none⟩=some (.int .i64 (-1)):=by simp [go_sem]
    have ha1:(wB.alloc (.cells #[.int .i64 (-1),.int .i64 101,.int .i64 100] 3)).cell? ⟨wB.heap.size,1,none⟩=some (.int .i64 (101)):=by simp [go_sem]
    have ha2:(wB.alloc (.cells #[.int .i64 (-1),.int .i64 101,.int .i64 100] 3)).cell? ⟨wB.heap.size,2,none⟩=some (.int .i64 (100)):=by simp [go_sem]
    have hRB:=hrB.lt
    have hbC0:=hbB.updT ((Upd.refl R wB).alloc (.cells #[.int .i64 (-1),.int .i64 101,.int .i64 100] 3)) (by omega)
    have hoC0:=owns_updT hoB ((Upd.refl R wB).alloc (.cells #[.int .i64 (-1),.int .i64 101,.int .i64 100] 3)) hRB7
    have huC0:=hu2B.alloc (.cells #[.int .i64 (-1),.int .i64 101,.int .i64 100] 3)
    clear hbB hu2B hrB hoB
    go_wp2_with fail
    refine HP.out.mono ?_;rintro e wC ⟨xi,rfl,hi0,hi1,hrC,huC⟩
    obtain ⟨j,rfl⟩:∃ j:Nat,xi=j:=⟨xi.toNat,by omega⟩
    obtain ⟨z,hz⟩:∃ z:Int,wC.cell? ⟨wB.heap.size,j,none⟩=some (.int .i64 z):=by
     rcases (by omega:j=0∨j=1∨j=2) with rfl | rfl | rfl
     · exact ⟨_,huC.cell ha0 (by omega)⟩
     · exact ⟨_,huC.cell ha1 (by omega)⟩
     · exact ⟨_,huC.cell ha2 (by omega)⟩
    have hbC:=hbC0.updT huC (by omega)
    have hoC:=owns_updT hoC0 huC hRB7
    have hu2C:=huC0.trans huC
    clear ha0 ha1 ha2 hRB hbC0 huC0 hoC0 huC HP
    obtain ⟨B8,hB8⟩:∃ B8,B8=wB.heap.size:=⟨_,rfl⟩
    rw [← hB8] at hz ⊢
    clear hB8
    have hbD:=hbC.put1 (.int .i64 z)
    have hoD:=owns_set hoC hnZ 1 (.int .i64 z)
    have hu2D:=hu2C.setNewT (o:=1) (v:=.int .i64 z) hZ62
    have hrD:=hrC.setT (o:=1) (v:=.int .i64 z) hZ6R
    obtain ⟨c0,c1,c2,c3,c4,c5,f0,f1,f2,f3,f4,f5⟩:=hbC
    go_upto_region 15 with (fail)
    clear c0 c1 c2 c3 c4 c5 f0 f1 f2 f3 f4 f5 hz
    generalize hww:World.setCell wC _ _=wD at hbD hoD hu2D hrD ⊢
    clear hww hrC hu2C hoC
    have hE:=HEX.out wD hu2D
    have HF:=Lib.hid (hE.set6 (.int .i64 y.bef) (.int .i64 z) (.int .i64 y.view) (.slice e1 e2 e3) (.int .i64 y.root) (.int .i64 y.effs))
    have HRET:=Lib.hid (HFIN.out wD y.bef z y.view e1 e2 e3 y.root y.effs y.acts w5.heap.size hoD HWA.out HYL.out hu2D (hrD.mono (by omega)) (by omega))
    obtain ⟨e0,e1,e2,e3,e4,e5,f0,f1,f2,f3,f4,f5⟩:=hE
    obtain ⟨c0,c1,c2,c3,c4,c5,-⟩:=hbD
    clear hu2D hrD hoD HFIN HEX
    go_wp2_with fail
    exact bodyPost_ret (results_blk Try.results13 _ (by rfl) HF.out) rfl HRET.out
  · go_wp2_with fail
    refine (l20Actions_any R _ 1 wB hrB (by omega) (by omega) (by omega)).mono ?_;rintro e wC ⟨vC,LC,rfl,hoC',hwC,hlC,hrC,huC⟩
    have hoC':=hoC'.1
    obtain ⟨a9,m9,c9,rfl⟩:=slice_form hoC'
    have hbC:=hbB.updT huC (by omega)
    have hu2C:=hu2B.trans huC
    have hRB:=hrB.lt
    have hEw:E < wB.heap.size:=by have:=hu2B.size;omega
    have hnC:Value.ownBlock (.slice a9 m9 c9)≠some Z6:=fun e=>by have:=(hoC'.lt _ e).1;have:=hbB.lt;omega
    have hbD:=hbC.put3' (.slice a9 m9 c9)
    have hoD:=owns_set hoC' hnC 3 (.slice a9 m9 c9)
    have hu2D:=hu2C.setNewT (o:=3) (v:=.slice a9 m9 c9) hZ62
    have hrD:=hrC.setT (o:=3) (v:=.slice a9 m9 c9) hZ6R
    obtain ⟨c0,c1,c2,c3,c4,c5,f0,f1,f2,f3,f4,f5⟩:=hbC
    go_upto_region 15 with (fail)
    clear c0 c1 c2 c3 c4 c5 f0 f1 f2 f3 f4 f5
    generalize hww:World.setCell wC _ _=wD at hbD hoD hu2D hrD ⊢
    clear hww hrC hu2C hoC'
    have hE:=HEX.out wD hu2D
    have HF:=Lib.hid (hE.set6 (.int .i64 y.bef) (.int .i64 y.hgt) (.int .i64 y.view) (.slice a9 m9 c9) (.int .i64 y.root) (.int .i64 y.effs))
    have HRET:=Lib.hid (HFIN.out wD y.bef y.hgt y.view a9 m9 c9 y.root y.effs LC wB.heap.size hoD hwC (by omega) hu2D (hrD.mono (by omega)) (by omega))
    obtain ⟨e0,e1,e2,e3,e4,e5,f0,f1,f2,f3,f4,f5⟩:=hE
    obtain ⟨c0,c1,c2,c3,c4,c5,-⟩:=hbD
    clear hu2D hrD hoD HFIN HEX
    go_wp2_with fail
    exact bodyPost_ret (results_blk Try.results13 _ (by rfl) HF.out) rfl HRET.out
  · have hbD:=hbB.put5x (.int .i64 (-1))
    have hoD:=owns_set hoB hnZ 5 (.int .i64 (-1))
    have hu2D:=hu2B.setNewT (o:=5) (v:=.int .i64 (-1)) hZ62
    have hrD:=hrB.setT (o:=5) (v:=.int .i64 (-1)) hZ6R
    obtain ⟨c0,c1,c2,c3,c4,c5,f0,f1,f2,f3,f4,f5⟩:=hbB
    go_upto_region 15 with (fail)
    clear c0 c1 c2 c3 c4 c5 f0 f1 f2 f3 f4 f5
    generalize hww:World.setCell wB _ _=wD at hbD hoD hu2D hrD ⊢
    clear hww hrB hu2B hoB
    have hE:=HEX.out wD hu2D
    have HF:=Lib.hid (hE.set6 (.int .i64 y.bef) (.int .i64 y.hgt) (.int .i64 y.view) (.slice e1 e2 e3) (.int .i64 y.root) (.int .i64 (-1)))
    have HRET:=Lib.hid (HFIN.out wD y.bef y.hgt y.view e1 e2 e3 y.root (-1) y.acts w5.heap.size hoD HWA.out HYL.out hu2D (hrD.mono (by omega)) (by omega))
    obtain ⟨e0,e1,e2,e3,e4,e5,f0,f1,f2,f3,f4,f5⟩:=hE
    obtain ⟨c0,c1,c2,c3,c4,c5,-⟩:=hbD
    clear hu2D hrD hoD HFIN HEX
    go_wp2_with fail
    exact bodyPost_ret (results_blk Try.results13 _ (by rfl) HF.out) rfl HRET.out
def DrawnBk (w:World) (en:Ending) (w':World):Prop :=
 ∃ p q r a n c t u L,en = .returned (.agg #[.int .i64 p,.int .i64 q,.int .i64 r,.slice a n c,.int .i64 t,.int .i64 u])∧RowA w' a n L∧L.length≤20∧Below w.heap.size w w'
set_option maxHeartbeats 4000000 in
theorem drawBlockValid_any (a:Option Addr) (len cap:Nat) (z:List Int) (w:World) (h:RowB w a len z) (hlc:len≤cap) :
  Calls Try.prog 5 #[.slice a len cap] w (DrawnBk w):=by
 have hZ0:=bkAt_new w 25 (.int .i64 0) (.int .i64 0) (.int .i64 0) (.slice none 0 0) (.int .i64 0) (.int .i64 0)
 have hb0:=(Below.refl w.heap.size w).alloc (Nat.le_refl _) (.cells #[.int .i64 0,.int .i64 0,.int .i64 0,.slice none 0 0,.int .i64 0,.int .i64 0] 25)
 obtain ⟨w0,hw0⟩:∃ W1,W1=w.alloc (.cells #[.int .i64 0,.int .i64 0,.int .i64 0,.slice none 0 0,.int .i64 0,.int .i64 0] 25):=⟨_,rfl⟩
 have HW0:=Lib.hid hw0
 have hrb:RowB w0 a len z:=by rw [hw0];exact rowB_belowT h hb0
 rw [← hw0] at hb0 hZ0
 clear hw0 h
 have HB0:=Lib.hid hb0
 have HZ0:=Lib.hid hZ0
 have HOP:=Lib.hid (open_any a len cap z w0 hrb hlc)
 clear hb0 hZ0 hrb
 go_enter Try.func5,Try.ntmps5
 go_upto_region 1 with (fail)
 rw [← HW0.out]
 clear HW0
 go_wp2_with fail
 refine HOP.out.mono ?_;rintro e w1 ⟨R,rfl,hR,hr1,hb1,hRl⟩
 have HR0:Hid (w.heap.size < R∧R < w1.heap.size):=Lib.hid ⟨by have:=HZ0.out.lt;omega,hr1.lt⟩
 have HB1:=Lib.hid (HB0.out.trans (hb1.mono HB0.out.size))
 have HZ1:=Lib.hid (HZ0.out.below hb1)
 clear HOP hb1 HB0 HZ0 hRl hR
 go_wp2_with fail
 refine (l20Block_any R 0 2 _ hr1 (by omega) (by omega) (by omega)).mono ?_;rintro e w2 ⟨p,q,r,a9,n9,c9,t,u,L,B,rfl,hBB,ho,hw,hl,-,hu⟩
 have HZ2:=Lib.hid (HZ1.out.updT hu (by have:=HR0.out;omega))
 have hno:Value.ownBlock (.slice a9 n9 c9)≠some w.heap.size:=fun e=>by have h1:=(ho.lt _ e).1;have h2:=HR0.out;omega
 have ho2:=owns_set6 ho hno (.int .i64 p) (.int .i64 q) (.int .i64 r) (.slice a9 n9 c9) (.int .i64 t) (.int .i64 u)
 have HFIN:Hid (DrawnBk w (.returned (.agg #[.int .i64 p,.int .i64 q,.int .i64 r,.slice a9 n9 c9,.int .i64 t,.int .i64 u])) ((((((w2.setCell ⟨w.heap.size,0,none⟩ (.int .i64 p)).setCell ⟨w.heap.size,1,none⟩ (.int .i64 q)).setCell ⟨w.heap.size,2,none⟩ (.int .i64 r)).setCell ⟨w.heap.size,3,none⟩ (.slice a9 n9 c9)).setCell ⟨w.heap.size,4,none⟩ (.int .i64 t)).setCell ⟨w.heap.size,5,none⟩ (.int .i64 u))):=Lib.hid (by
  obtain ⟨a8,k8,e8,r8,-⟩:=rowA_of_owns ho2 (by omega) hw
  simp only [Value.slice.injEq] at e8
  obtain ⟨rfl,rfl,rfl⟩:=e8
  exact ⟨p,q,r,a9,_,c9,t,u,L,rfl,r8,hl,below_set6 (hu.below HB1.out (Nat.le_of_lt HZ1.out.lt) (Nat.le_of_lt HR0.out.1)) (Nat.le_refl _) _ _ _ _ _ _⟩)
 have HE:=Lib.hid (HZ2.out.set6 (.int .i64 p) (.int .i64 q) (.int .i64 r) (.slice a9 n9 c9) (.int .i64 t) (.int .i64 u))
 clear hu hl hw ho ho2 hno HZ1 HB1
 obtain ⟨q0,q1,q2,q3,q4,q5,p0,p1,p2,p3,p4,p5⟩:=HZ2.out
 go_wp2_with fail
 exact bodyPost_ret (results_blk Try.results5 _ (by rfl) HE.out) rfl HFIN.out
set_option maxHeartbeats 4000000 in
theorem drawBlockSum_any (a:Option Addr) (len cap:Nat) (z:List Int) (w:World) (h:RowB w a len z) (hlc:len≤cap) :
  Calls Try.prog 10 #[.slice a len cap] w (DrawnBk w):=by
 have hZ0:=bkAt_new w 25 (.int .i64 0) (.int .i64 0) (.int .i64 0) (.slice none 0 0) (.int .i64 0) (.int .i64 0)
 have hb0:=(Below.refl w.heap.size w).alloc (Nat.le_refl _) (.cells #[.int .i64 0,.int .i64 0,.int .i64 0,.slice none 0 0,.int .i64 0,.int .i64 0] 25)
 obtain ⟨w0,hw0⟩:∃ W1,W1=w.alloc (.cells #[.int .i64 0,.int .i64 0,.int .i64 0,.slice none 0 0,.int .i64 0,.int .i64 0] 25):=⟨_,rfl⟩
 have HW0:=Lib.hid hw0
 have hrb:RowB w0 a len z:=by rw [hw0];exact rowB_belowT h hb0
 rw [← hw0] at hb0 hZ0
 clear hw0 h
 have HB0:=Lib.hid hb0
 have HZ0:=Lib.hid hZ0
 have HOP:=Lib.hid (open_any a len cap z w0 hrb hlc)
 clear hb0 hZ0 hrb
 go_enter Try.func10,Try.ntmps10
 go_upto_region 1 with (fail)
 rw [← HW0.out]
 clear HW0
 go_wp2_with fail
 refine HOP.out.mono ?_;rintro e w1 ⟨R,rfl,hR,hr1,hb1,hRl⟩
 have HR0:Hid (w.heap.size < R∧R < w1.heap.size):=Lib.hid ⟨by have:=HZ0.out.lt;omega,hr1.lt⟩
 have HB1:=Lib.hid (HB0.out.trans (hb1.mono HB0.out.size))
 have HZ1:=Lib.hid (HZ0.out.below hb1)
 clear HOP hb1 HB0 HZ0 hRl hR
 go_wp2_with fail
 refine (l20Block_any R 0 9 _ hr1 (by omega) (by omega) (by omega)).mono ?_;rintro e w2 ⟨p,q,r,a9,n9,c9,t,u,L,B,rfl,hBB,ho,hw,hl,-,hu⟩
 have HZ2:=Lib.hid (HZ1.out.updT hu (by have:=HR0.out;omega))
 have hno:Value.ownBlock (.slice a9 n9 c9)≠some w.heap.size:=fun e=>by have h1:=(ho.lt _ e).1;have h2:=HR0.out;omega
 have ho2:=owns_set6 ho hno (.int .i64 p) (.int .i64 q) (.int .i64 r) (.slice a9 n9 c9) (.int .i64 t) (.int .i64 u)
 have HFIN:Hid (DrawnBk w (.returned (.agg #[.int .i64 p,.int .i64 q,.int .i64 r,.slice a9 n9 c9,.int .i64 t,.int .i64 u])) ((((((w2.setCell ⟨w.heap.size,0,none⟩ (.int .i64 p)).setCell ⟨w.heap.size,1,none⟩ (.int .i64 q)).setCell ⟨w.heap.size,2,none⟩ (.int .i64 r)).setCell ⟨w.heap.size,3,none⟩ (.slice a9 n9 c9)).setCell ⟨w.heap.size,4,none⟩ (.int .i64 t)).setCell ⟨w.heap.size,5,none⟩ (.int .i64 u))):=Lib.hid (by
  obtain ⟨a8,k8,e8,r8,-⟩:=rowA_of_owns ho2 (by omega) hw
  simp only [Value.slice.injEq] at e8
  obtain ⟨rfl,rfl,rfl⟩:=e8
  exact ⟨p,q,r,a9,_,c9,t,u,L,rfl,r8,hl,below_set6 (hu.below HB1.out (Nat.le_of_lt HZ1.out.lt) (Nat.le_of_lt HR0.out.1)) (Nat.le_refl _) _ _ _ _ _ _⟩)
 have HE:=Lib.hid (HZ2.out.set6 (.int .i64 p) (.int .i64 q) (.int .i64 r) (.slice a9 n9 c9) (.int .i64 t) (.int .i64 u))
 clear hu hl hw ho ho2 hno HZ1 HB1
 obtain ⟨q0,q1,q2,q3,q4,q5,p0,p1,p2,p3,p4,p5⟩:=HZ2.out
 go_wp2_with fail
 exact bodyPost_ret (results_blk Try.results10 _ (by rfl) HE.out) rfl HFIN.out
end Go.Proofs.Ytolhdacbahgfgab

/- Texts of ours that stand together: TreHold, RegionBox, DrawCt, DrawLn, DrawCs, DrawCs2 -/
import Derived.Test.YtpnjgmgmakmgeaaGreatTrM
import Derived.Test.YtpnjgmgmakmgeaaGreatCore
import Derived.Test.YtpnjgmgmakmgeaaGreatRegJ
import Derived.Test.YtpnjgmgmakmgeaaGreatRegO
import Derived.Test.YtpnjgmgmakmgeaaGreatDrT
import Derived.Test.YtpnjgmgmakmgeaaGreatSpB
import Derived.Test.YtpnjgmgmakmgeaaGreatCtG
import Derived.Lib.MinMax
import Derived.Test.YtpnjgmgmakmgeaaGreatVerA
import Derived.Test.YtpnjgmgmakmgeaaGreatConvVx
import Derived.Test.YtpnjgmgmakmgeaaGreatTrI
import Derived.Test.YtpnjgmgmakmgeaaGreatTrX
/- A tree that reads in every world behind which only the reader has moved: its blocks' cells are not the reader's. No function of the program is named here. -/
namespace Go.Proofs.YtpnjgmgmakmgeaaGreat
open Go.RowKit
set_option linter.unusedVariables false
theorem upd_wipe (w:World) (R:Nat):Upd R w { w with heap:=w.heap.setIfInBounds R (.cells #[] 0 (0,0)) } :=
 ⟨rfl,rfl,rfl,by simp,fun q hq hr=>by
  have hne:R≠q:=fun e=>hr (by rw [e])
  simp [hne]⟩
theorem tre_ne {w:World} {R b off n c:Nat} {v1 v3:Value} {t:Tre} (h:∀ W,Upd R w W→TreRd W v1 (.slice (some ⟨b,off,none⟩) n c) v3 t) (hn:0 < n):b≠R:=by
 intro e
 subst e
 obtain ⟨-,⟨a2,n2,c2,e2,r2,-,-⟩,-⟩:=h _ (upd_wipe w b)
 simp only [Value.slice.injEq] at e2
 obtain ⟨rfl,rfl,rfl⟩:=e2
 obtain ⟨b',off',e3,hb⟩:=r2.at 0 hn
 simp only [Option.some.injEq,Addr.mk.injEq] at e3
 obtain ⟨rfl,rfl,-⟩:=e3
 have h0:=hb.c0
 have hl:b < w.heap.size:=by
  obtain ⟨-,⟨a2,n2,c2,e2,r2,-,-⟩,-⟩:=h _ (Upd.refl _ w)
  simp only [Value.slice.injEq] at e2
  obtain ⟨rfl,rfl,rfl⟩:=e2
  obtain ⟨b',off',e3,hb⟩:=r2.at 0 hn
  simp only [Option.some.injEq,Addr.mk.injEq] at e3
  obtain ⟨rfl,rfl,-⟩:=e3
  exact hb.lt
 simp [World.cell?,hl] at h0
def BkHold (R:Nat) (w:World) (b o:Nat) (x:Blk) (a:Option Addr) (n c:Nat):Prop :=
 ∀ W,Upd R w W→(W.cell? ⟨b,o,none⟩=some (.int .i64 x.bef)∧W.cell? ⟨b,o+1,none⟩=some (.int .i64 x.hgt)∧W.cell? ⟨b,o+2,none⟩=some (.int .i64 x.view)∧W.cell? ⟨b,o+3,none⟩=some (.slice a n c)∧W.cell? ⟨b,o+4,none⟩=some (.int .i64 x.root)∧W.cell? ⟨b,o+5,none⟩=some (.int .i64 x.effs))∧RowA W a n x.acts
theorem tre_hold {w:World} {R b off n c:Nat} {v1 v3:Value} {t:Tre} (h:∀ W,Upd R w W→TreRd W v1 (.slice (some ⟨b,off,none⟩) n c) v3 t) (k:Nat) (hk:k < n):∃ a m e,BkHold R w b (off+k*6) (t.blocks.getD k noBlk) a m e:=by
 have hne:=tre_ne h (by omega)
 have hat:∀ W,Upd R w W→BkIn W b (off+k*6) (t.blocks.getD k noBlk):=by
  intro W hu
  obtain ⟨-,⟨a2,n2,c2,e2,r2,-,-⟩,-⟩:=h W hu
  simp only [Value.slice.injEq] at e2
  obtain ⟨rfl,rfl,rfl⟩:=e2
  obtain ⟨b',off',e3,hb⟩:=r2.at k hk
  simp only [Option.some.injEq,Addr.mk.injEq] at e3
  obtain ⟨rfl,rfl,-⟩:=e3
  exact hb
 obtain ⟨v,hv,a,m,e,rfl,-⟩:=(hat w (Upd.refl _ _)).c3
 refine ⟨a,m,e,fun W hu=>?_⟩
 have hb:=hat W hu
 obtain ⟨v',hv',a',m',e',rfl,ra,-⟩:=hb.c3
 have h3:=hu.cell hv hne
 rw [hv'] at h3
 simp only [Option.some.injEq,Value.slice.injEq] at h3
 obtain ⟨rfl,rfl,rfl⟩:=h3
 exact ⟨⟨hb.c0,hb.c1,hb.c2,hv',hb.c4,hb.c5⟩,ra⟩
structure BxJ (w0:World) (a s d:Nat) (v1 v2 v3:Value) (l:Nat→Bool) (f:Nat→Value) (w:World):Prop where
 bel:Below w0.heap.size w0 w
 dep:l s=true→l a=true
 box:l a=true→∃ b u1 u2 u3,f d = .pointer (some ⟨b,0,none⟩)∧w0.heap.size≤b∧TrAt w b u1 u2 u3∧(l s=true→u1=v1∧u2=v2∧u3=v3)
theorem BxJ.nothing (w0:World) (a s d:Nat) (v1 v2 v3:Value) (f:Nat→Value):BxJ w0 a s d v1 v2 v3 (fun _=>false) f w0.drew :=
 ⟨(Below.refl _ _).drew,fun h=>(by cases h),fun h=>(by cases h)⟩
theorem BxJ.still {w0 w w':World} {a s d:Nat} {v1 v2 v3:Value} {l:Nat→Bool} {f:Nat→Value} (h:BxJ w0 a s d v1 v2 v3 l f w) (i e:Nat) (v:Value) (hb:Below w.heap.size w w') (ha:(a == i)=false) (hs:(s == i)=false) (he:(e == d)=false) :
  BxJ w0 a s d v1 v2 v3 (fun j=>j == i || l j) (fun x=>if some e=some x then v else f x) w':=by
 refine ⟨h.bel.trans (hb.mono h.bel.size),fun hh=>?_,fun hh=>?_⟩
 · simp only [hs,ha,Bool.false_or] at hh ⊢;exact h.dep hh
 · simp only [ha,Bool.false_or] at hh
   obtain ⟨b,u1,u2,u3,e1,e2,e3,e4⟩:=h.box hh
   have hd:¬ (some e=some d):=by simp;intro x;subst x;simp at he
   refine ⟨b,u1,u2,u3,by simp only [if_neg hd];exact e1,e2,e3.below hb,fun hh2=>?_⟩
   simp only [hs,Bool.false_or] at hh2
   exact e4 hh2
theorem BxJ.make {w0 w:World} {a s d:Nat} {v1 v2 v3:Value} {l:Nat→Bool} {f:Nat→Value} (h:BxJ w0 a s d v1 v2 v3 l f w) (hla:l a=false) (u1 u2 u3:Value) (T:TypeId) (has:(s == a)=false) :
  BxJ w0 a s d v1 v2 v3 (fun j=>j == a || l j) (fun x=>if some d=some x then .pointer (some ⟨w.heap.size,0,none⟩) else f x) (w.alloc (.cells #[u1,u2,u3] T)):=by
 have hls:l s=false:=by cases e:l s with | false=>rfl | true=>rw [h.dep e] at hla;cases hla
 refine ⟨h.bel.alloc h.bel.size _,fun hh=>by simp,fun _=>⟨w.heap.size,u1,u2,u3,by simp,h.bel.size,trAt_new w T u1 u2 u3,fun hh=>?_⟩⟩
 simp only [has,Bool.false_or,hls] at hh;cases hh
theorem BxJ.store {w0 w:World} {a s d b:Nat} {v1 v2 v3 u1 u2 u3:Value} {l:Nat→Bool} {f:Nat→Value} (h:BxJ w0 a s d v1 v2 v3 l f w) (hla:l a=true) (he:f d = .pointer (some ⟨b,0,none⟩)) (hb:w0.heap.size≤b) (ht:TrAt w b u1 u2 u3) (hw:Below w0.heap.size w0 (set3b w b v1 v2 v3)) (v:Value) :
  BxJ w0 a s d v1 v2 v3 (fun j=>j == s || l j) (fun x=>if none=some x then v else f x) (set3b w b v1 v2 v3) :=
 ⟨hw,fun _=>by simp [hla],fun _=>⟨b,v1,v2,v3,by simpa using he,hb,ht.set3b v1 v2 v3,fun _=>⟨rfl,rfl,rfl⟩⟩⟩
theorem set3b_below {w0 w:World} {b:Nat} (h:Below w0.heap.size w0 w) (hb:w0.heap.size≤b) (v1 v2 v3:Value):Below w0.heap.size w0 (set3b w b v1 v2 v3) :=
 ((h.setCell (p:=⟨b,0,none⟩) hb v1).setCell (p:=⟨b,1,none⟩) hb v2).setCell (p:=⟨b,2,none⟩) hb v3
set_option linter.unusedSimpArgs false
def WdIx (R m:Nat):Wd R:=⟨fun v _=>∃ k:Nat,v = .int .i64 (k:Int)∧k < m,fun _ _ _ h _=>h⟩
def WdPl (R b off m:Nat):Wd R:=⟨fun v _=>∃ k:Nat,v = .pointer (some ⟨b,off+k*6,none⟩)∧k < m,fun _ _ _ h _=>h⟩
def WdBk (R:Nat) (w:World) (b off m:Nat) (t:Tre):Wd R:=⟨fun v _=>∃ (k:Nat) (a:Option Addr) (n c:Nat),v = .agg #[.int .i64 (t.blocks.getD k noBlk).bef,.int .i64 (t.blocks.getD k noBlk).hgt,.int .i64 (t.blocks.getD k noBlk).view,.slice a n c,.int .i64 (t.blocks.getD k noBlk).root,.int .i64 (t.blocks.getD k noBlk).effs]∧k < m∧BkHold R w b (off+k*6) (t.blocks.getD k noBlk) a n c,fun _ _ _ h _=>h⟩
def WdC (R:Nat) (s v:Int):Wd R:=⟨fun u _=>∃ x:Int,u = .agg #[.int .i64 s,.int .i64 v,.int .i64 x]∧0≤x∧x≤15,fun _ _ _ h _=>h⟩
def WdCb (R:Nat) (w0:World):Wd R:=⟨fun v w=>∃ Z,v = .pointer (some ⟨Z,0,none⟩)∧w0.heap.size≤Z∧R < Z∧TrAt w Z (.int .i64 0) (.int .i64 0) (.int .i64 0),
 fun v w w' ⟨Z,h1,h2,h3,h4⟩ hu=>⟨Z,h1,h2,h3,h4.upd hu (by omega)⟩⟩
def DrawCt (w:World) (R P c:Nat) (en:Ending) (w':World):Prop :=
 ∃ s v g,en = .returned (.agg #[.int .i64 s,.int .i64 v,.int .i64 g])∧(-1≤s∧s≤1000003)∧(-1≤v∧v≤1001)∧(-1≤g∧g≤16)∧Rd w' R (P+c)∧Upd R w w'
set_option maxRecDepth 100000 in
set_option maxHeartbeats 8000000 in
theorem l20Cert_any (R P:Nat) (n:Int) (b1:Option Addr) (m1 d1:Nat) (b2:Option Addr) (m2 d2:Nat) (b3:Option Addr) (m3 d3:Nat) (t:Tre) (w:World) (h:Rd w R P) (hP:P≤400000) (hn0:0≤n) (hn:n≤1000) (htr:∀ W,Upd R w W→TreRd W (.slice b1 m1 d1) (.slice b2 m2 d2) (.slice b3 m3 d3) t) (hm0:1≤m2) (hm1:m2≤14) :
  Calls Tryz.prog 68 #[.pointer (some ⟨R,0,none⟩),.agg #[.slice b1 m1 d1,.slice b2 m2 d2,.slice b3 m3 d3],.int .i64 n] w (DrawCt w R P 7):=by
 obtain ⟨b,off,rfl⟩:∃ b off,b2=some ⟨b,off,none⟩:=by
  obtain ⟨-,⟨a2,n2,c2,e2,r2,-,-⟩,-⟩:=htr w (Upd.refl _ _)
  simp only [Value.slice.injEq] at e2
  obtain ⟨rfl,rfl,rfl⟩:=e2
  obtain ⟨b',off',e3,-⟩:=r2.at 0 (by omega)
  exact ⟨b',off',e3⟩
 have hRw:=h.lt
 have hu0:Upd R w ((w.alloc (.cells #[.slice b1 m1 d1,.slice (some ⟨b,off,none⟩) m2 d2,.slice b3 m3 d3] 27)).alloc (.cells #[.int .i64 0,.int .i64 0,.int .i64 0] 29)):=((Upd.refl _ _).alloc _).alloc _
 have hG0:=(trAt_new w 27 (.slice b1 m1 d1) (.slice (some ⟨b,off,none⟩) m2 d2) (.slice b3 m3 d3)).below ((Below.refl _ _).alloc (Nat.le_refl _) (.cells #[.int .i64 0,.int .i64 0,.int .i64 0] 29))
 have hE0:=trAt_new (w.alloc (.cells #[.slice b1 m1 d1,.slice (some ⟨b,off,none⟩) m2 d2,.slice b3 m3 d3] 27)) 29 (.int .i64 0) (.int .i64 0) (.int .i64 0)
 rw [World.size_alloc] at hE0
 have hr2:Rd ((w.alloc (.cells #[.slice b1 m1 d1,.slice (some ⟨b,off,none⟩) m2 d2,.slice b3 m3 d3] 27)).alloc (.cells #[.int .i64 0,.int .i64 0,.int .i64 0] 29)) R P:=(h.alloc _).alloc _
 have hz0:((w.alloc (.cells #[.slice b1 m1 d1,.slice (some ⟨b,off,none⟩) m2 d2,.slice b3 m3 d3] 27)).alloc (.cells #[.int .i64 0,.int .i64 0,.int .i64 0] 29)).heap.size=w.heap.size+1+1:=by simp
 obtain ⟨w2,hw2⟩:∃ W1,W1=(w.alloc (.cells #[.slice b1 m1 d1,.slice (some ⟨b,off,none⟩) m2 d2,.slice b3 m3 d3] 27)).alloc (.cells #[.int .i64 0,.int .i64 0,.int .i64 0] 29):=⟨_,rfl⟩
 have HW2:=Lib.hid hw2
 rw [← hw2] at hu0 hG0 hE0 hr2 hz0
 clear hw2 h
 have HHD:=Lib.hid (tre_hold (w:=w2) (R:=R) (fun W hu=>htr W (hu0.trans hu)))
 obtain ⟨G,hG⟩:∃ G,G=w.heap.size:=⟨_,rfl⟩
 have HGE:=Lib.hid hG
 rw [← hG] at hG0 hE0 hz0
 have HBX:=Lib.hid (fun (W:World) (hu:Upd R w2 W)=>hG0.upd hu (by omega))
 have HEX:=Lib.hid (fun (W:World) (hu:Upd R w2 W)=>hE0.upd hu (by omega))
 have HU0:=Lib.hid hu0
 obtain ⟨P2,hP2⟩:∃ p,p=P:=⟨_,rfl⟩
 have HP2:=Lib.hid hP2
 rw [← hP2] at hr2 hP
 have hRG:R < G:=by omega
 clear hu0 hG0 hE0 htr hP2
 go_enter Tryz.func68,Tryz.ntmps68
 go_upto_region 1 with (fail)
 rw [← HW2.out]
 clear HW2
 rw [← hG]
 clear hG
 refine wp_region_light (by kernel_rfl) (StoJ (fun lz fz wz=>WdJ R w2 (P2) [(6,1)] [(0,9,Wd.is R (.pointer (some ⟨G,1,none⟩))),(1,10,Wd.is R (.slice (some ⟨b,off,none⟩) m2 d2)),(2,11,Wd.is R (.pointer (some ⟨R,0,none⟩))),(3,12,Wd.is R (.pointer (some ⟨G,1,none⟩))),(4,13,Wd.is R (.slice (some ⟨b,off,none⟩) m2 d2)),(5,14,Wd.is R (.int .i64 (m2:Int))),(6,15,WdIx R m2),(7,16,WdPl R b off m2),(8,17,WdBk R w2 b off m2 t),(9,7,WdBox R w2)] lz fz wz∧ClJ [(1,[0]),(4,[3]),(5,[4]),(6,[2,5]),(7,[1,6]),(8,[7])] lz) (fun lz fz wz=>(∀ i,i < 10→lz i=true)∧∃ Zb k a n c,fz 7 = .pointer (some ⟨Zb,0,none⟩)∧w2.heap.size≤Zb∧BkAt wz Zb (.int .i64 (t.blocks.getD k noBlk).bef) (.int .i64 (t.blocks.getD k noBlk).hgt) (.int .i64 (t.blocks.getD k noBlk).view) (.slice a n c) (.int .i64 (t.blocks.getD k noBlk).root) (.int .i64 (t.blocks.getD k noBlk).effs)∧k < m2∧BkHold R w2 b (off+k*6) (t.blocks.getD k noBlk) a n c∧Upd R w2 wz∧Rd wz R (P2+1)) 10) 67 rfl [9,10,11,12,13,14,15,16,17,7] (by kernel_rfl) (by kernel_rfl) (by kernel_rfl) (fun f=>StoJ.nothing ⟨WdJ.nothing _ _ f hr2,ClJ.nothing _⟩) ?_ ?_
 · intro i hi
   rcases (by have:i < 11:=hi;omega:i=0∨i=1∨i=2∨i=3∨i=4∨i=5∨i=6∨i=7∨i=8∨i=9∨i=10) with rfl | rfl | rfl | rfl | rfl | rfl | rfl | rfl | rfl | rfl | rfl
   all_goals (clear hi;intro o ho lz fz w' A hJ0 hli ha hA K hK;obtain rfl:=Option.some.inj ho;clear ho)
   · have hM:=hJ0.ahead hli (fun hq=>hq.1 0 (by decide))
     obtain ⟨hJ,hC⟩:=hJ0.1 hM
     have gg4:=so hA 4 _ rfl
     simp only [List.getD_cons_succ,List.getD_cons_zero] at gg4
     rw [if_pos (by rfl)]
     have hF:=hK _ w' (StoJ.step 0 (by decide) hM ⟨hJ.stay 0 0 9 rfl rfl rfl rfl,hC.step 0 (by simp)⟩)
     clear hJ hJ0 ha hK hA hli hC hM;go_simp;exact hF
   · have hM:=hJ0.ahead hli (fun hq=>hq.1 1 (by decide))
     obtain ⟨hJ,hC⟩:=hJ0.1 hM
     have gg9:=sj hA 9 (hJ.at 0 rfl (ha 0 (by decide)))
     rw [if_pos (by rfl)]
     obtain ⟨z0,z1,z2,-,-,-⟩:=HBX.out w' hJ.upd
     have hF:=hK _ w' (StoJ.step 1 (by decide) hM ⟨hJ.stay 1 1 10 rfl rfl rfl rfl,hC.step 1 (by simp [ha 0 (by decide)])⟩)
     clear hJ hJ0 ha hK hA hli hC hM;go_simp;exact hF
   · have hM:=hJ0.ahead hli (fun hq=>hq.1 2 (by decide))
     obtain ⟨hJ,hC⟩:=hJ0.1 hM
     have gg0:=so hA 0 _ rfl
     simp only [List.getD_cons_succ,List.getD_cons_zero] at gg0
     rw [if_pos (by rfl)]
     have hF:=hK _ w' (StoJ.step 2 (by decide) hM ⟨hJ.stay 2 2 11 rfl rfl rfl rfl,hC.step 2 (by simp)⟩)
     clear hJ hJ0 ha hK hA hli hC hM;go_simp;exact hF
   · have hM:=hJ0.ahead hli (fun hq=>hq.1 3 (by decide))
     obtain ⟨hJ,hC⟩:=hJ0.1 hM
     have gg4:=so hA 4 _ rfl
     simp only [List.getD_cons_succ,List.getD_cons_zero] at gg4
     rw [if_pos (by rfl)]
     have hF:=hK _ w' (StoJ.step 3 (by decide) hM ⟨hJ.stay 3 3 12 rfl rfl rfl rfl,hC.step 3 (by simp)⟩)
     clear hJ hJ0 ha hK hA hli hC hM;go_simp;exact hF
   · have hM:=hJ0.ahead hli (fun hq=>hq.1 4 (by decide))
     obtain ⟨hJ,hC⟩:=hJ0.1 hM
     have gg12:=sj hA 12 (hJ.at 3 rfl (ha 3 (by decide)))
     rw [if_pos (by rfl)]
     obtain ⟨z0,z1,z2,-,-,-⟩:=HBX.out w' hJ.upd
     have hF:=hK _ w' (StoJ.step 4 (by decide) hM ⟨hJ.stay 4 4 13 rfl rfl rfl rfl,hC.step 4 (by simp [ha 3 (by decide)])⟩)
     clear hJ hJ0 ha hK hA hli hC hM;go_simp;exact hF
   · have hM:=hJ0.ahead hli (fun hq=>hq.1 5 (by decide))
     obtain ⟨hJ,hC⟩:=hJ0.1 hM
     have gg13:=sj hA 13 (hJ.at 4 rfl (ha 4 (by decide)))
     rw [if_pos (by rfl)]
     have hF:=hK _ w' (StoJ.step 5 (by decide) hM ⟨hJ.stay 5 5 14 rfl rfl rfl rfl,hC.step 5 (by simp [ha 4 (by decide)])⟩)
     clear hJ hJ0 ha hK hA hli hC hM;go_simp;exact hF
   · have hM:=hJ0.ahead hli (fun hq=>hq.1 6 (by decide))
     obtain ⟨hJ,hC⟩:=hJ0.1 hM
     have hbd:=costOf_le [(6,1)] lz
     simp only [List.map_cons,List.map_nil,List.sum_cons,List.sum_nil] at hbd
     have gg11:=sj hA 11 (hJ.at 2 rfl (ha 2 (by decide)))
     have gg14:=sj hA 14 (hJ.at 5 rfl (ha 5 (by decide)))
     rw [if_pos (by rfl)]
     clear hA
     go_simp
     refine (pick_pos R _ (m2:Int) w' hJ.rd (by omega) (by omega) (by omega)).mono ?_
     rintro e9 w9 ⟨x9,rfl,h90,h91,hr9,hu9⟩
     obtain ⟨k9,rfl⟩:∃ k:Nat,x9=k:=⟨x9.toNat,by omega⟩
     exact hK _ w9 (StoJ.step 6 (by decide) hM ⟨hJ.step 6 6 15 (.int .i64 (k9:Int)) rfl rfl rfl hu9 (hJ.asked 6 (by simp) hli hr9) ⟨k9,rfl,by omega⟩,hC.step 6 (by simp [ha 2 (by decide),ha 5 (by decide)])⟩)
   · have hM:=hJ0.ahead hli (fun hq=>hq.1 7 (by decide))
     obtain ⟨hJ,hC⟩:=hJ0.1 hM
     have hbd:=costOf_le [(6,1)] lz
     simp only [List.map_cons,List.map_nil,List.sum_cons,List.sum_nil] at hbd
     have gg10:=sj hA 10 (hJ.at 1 rfl (ha 1 (by decide)))
     obtain ⟨k15,hx15,hl15⟩:=hJ.at 6 rfl (ha 6 (by decide))
     have gg15:=sj hA 15 hx15
     rw [if_pos (by rfl)]
     have hF:=hK (.pointer (some ⟨b,off+k15*6,none⟩)) w' (StoJ.step 7 (by decide) hM ⟨hJ.stay 7 7 16 rfl rfl rfl ⟨k15,rfl,hl15⟩,hC.step 7 (by simp [ha 1 (by decide),ha 6 (by decide)])⟩)
     clear hJ hJ0 ha hK hA hli hbd hC hM;go_simp;exact hF
   · have hM:=hJ0.ahead hli (fun hq=>hq.1 8 (by decide))
     obtain ⟨hJ,hC⟩:=hJ0.1 hM
     have hbd:=costOf_le [(6,1)] lz
     simp only [List.map_cons,List.map_nil,List.sum_cons,List.sum_nil] at hbd
     obtain ⟨k16,hx16,hl16⟩:=hJ.at 7 rfl (ha 7 (by decide))
     have gg16:=sj hA 16 hx16
     rw [if_pos (by rfl)]
     obtain ⟨a16,n16,c16,hh16⟩:=HHD.out k16 hl16
     obtain ⟨⟨q0,q1,q2,q3,q4,q5⟩,-⟩:=hh16 w' hJ.upd
     have hF:=hK (.agg #[.int .i64 (t.blocks.getD k16 noBlk).bef,.int .i64 (t.blocks.getD k16 noBlk).hgt,.int .i64 (t.blocks.getD k16 noBlk).view,.slice a16 n16 c16,.int .i64 (t.blocks.getD k16 noBlk).root,.int .i64 (t.blocks.getD k16 noBlk).effs]) w' (StoJ.step 8 (by decide) hM ⟨hJ.stay 8 8 17 rfl rfl rfl ⟨k16,a16,n16,c16,rfl,hl16,hh16⟩,hC.step 8 (by simp [ha 7 (by decide)])⟩)
     clear hJ hJ0 ha hK hA hli hbd hC hM;go_simp;exact hF
   · have hM:=hJ0.ahead hli (fun hq=>hq.1 9 (by decide))
     obtain ⟨hJ,hC⟩:=hJ0.1 hM
     have hbd:=costOf_le [(6,1)] lz
     simp only [List.map_cons,List.map_nil,List.sum_cons,List.sum_nil] at hbd
     rw [if_pos (by rfl)]
     have hF:=hK (.pointer (some ⟨w'.heap.size,0,none⟩)) (w'.alloc (.cells #[.int .i64 0,.int .i64 0,.int .i64 0,.slice none 0 0,.int .i64 0,.int .i64 0] 37)) (StoJ.step 9 (by decide) hM ⟨hJ.step 9 9 7 (.pointer (some ⟨w'.heap.size,0,none⟩)) rfl rfl rfl ((Upd.refl _ _).alloc _) (hJ.same 9 (hJ.rd.alloc _)) ⟨_,rfl,hJ.upd.size,hJ.rd.lt,bkAt_new w' _ _ _ _ _ _ _⟩,hC.step 9 (by simp)⟩)
     clear hJ hJ0 ha hK hA hli hbd hC hM
     go_simp
     exact hF
   · obtain ⟨hJ,hC⟩:=hJ0.1 hli
     have hbd:=costOf_le [(6,1)] lz
     simp only [List.map_cons,List.map_nil,List.sum_cons,List.sum_nil] at hbd
     obtain ⟨Z7,hx7,hZ7,hR7,hb7⟩:=hJ.at 9 rfl (ha 9 (by decide))
     have gg7:=sj hA 7 hx7
     obtain ⟨k17,a17,n17,c17,hx17,hl17,hh17⟩:=hJ.at 8 rfl (ha 8 (by decide))
     have gg17:=sj hA 17 hx17
     rw [if_pos (by rfl)]
     have l9:lz 9=true:=ha 9 (by decide)
     have l8:lz 8=true:=ha 8 (by decide)
     have l7:lz 7=true:=hC (8,[7]) (by simp) l8 7 (by simp)
     have l1:lz 1=true:=hC (7,[1,6]) (by simp) l7 1 (by simp)
     have l0:lz 0=true:=hC (1,[0]) (by simp) l1 0 (by simp)
     have l6:lz 6=true:=hC (7,[1,6]) (by simp) l7 6 (by simp)
     have l2:lz 2=true:=hC (6,[2,5]) (by simp) l6 2 (by simp)
     have l5:lz 5=true:=hC (6,[2,5]) (by simp) l6 5 (by simp)
     have l4:lz 4=true:=hC (5,[4]) (by simp) l5 4 (by simp)
     have l3:lz 3=true:=hC (4,[3]) (by simp) l4 3 (by simp)
     have hall:∀ i,i < 11→(i == 10 || lz i)=true:=fun i hi =>by
      rcases (by omega:i=0∨i=1∨i=2∨i=3∨i=4∨i=5∨i=6∨i=7∨i=8∨i=9∨i=10) with rfl | rfl | rfl | rfl | rfl | rfl | rfl | rfl | rfl | rfl | rfl <;> simp [*]
     have hbf:=hb7.set6 (.int .i64 (t.blocks.getD k17 noBlk).bef) (.int .i64 (t.blocks.getD k17 noBlk).hgt) (.int .i64 (t.blocks.getD k17 noBlk).view) (.slice a17 n17 c17) (.int .i64 (t.blocks.getD k17 noBlk).root) (.int .i64 (t.blocks.getD k17 noBlk).effs)
     have hupd:Upd R w2 ((((((w'.setCell ⟨Z7,0,none⟩ (.int .i64 (t.blocks.getD k17 noBlk).bef)).setCell ⟨Z7,1,none⟩ (.int .i64 (t.blocks.getD k17 noBlk).hgt)).setCell ⟨Z7,2,none⟩ (.int .i64 (t.blocks.getD k17 noBlk).view)).setCell ⟨Z7,3,none⟩ (.slice a17 n17 c17)).setCell ⟨Z7,4,none⟩ (.int .i64 (t.blocks.getD k17 noBlk).root)).setCell ⟨Z7,5,none⟩ (.int .i64 (t.blocks.getD k17 noBlk).effs)):=(((((hJ.upd.setNewT hZ7).setNewT hZ7).setNewT hZ7).setNewT hZ7).setNewT hZ7).setNewT hZ7
     have hrd:=(((((((hJ.rd.mono (show _≤P2+1 by omega)).setT (o:=0) (v:=.int .i64 (t.blocks.getD k17 noBlk).bef) hR7).setT (o:=1) (v:=.int .i64 (t.blocks.getD k17 noBlk).hgt) hR7).setT (o:=2) (v:=.int .i64 (t.blocks.getD k17 noBlk).view) hR7).setT (o:=3) (v:=.slice a17 n17 c17) hR7).setT (o:=4) (v:=.int .i64 (t.blocks.getD k17 noBlk).root) hR7).setT (o:=5) (v:=.int .i64 (t.blocks.getD k17 noBlk).effs) hR7)
     obtain ⟨z0,z1,z2,z3,z4,z5,f0,f1,f2,f3,f4,f5⟩:=hb7
     have hF:=hK undef _ (StoJ.at ⟨fun i hi=>hall i (by omega),_,k17,a17,n17,c17,by simpa using hx7,hZ7,hbf,hl17,hh17,hupd,hrd⟩)
     clear hJ hJ0 ha hK hA hli hbd hC hall hupd hrd hbf;go_simp;exact hF
 intro lz fz w5 hall hJ
 obtain ⟨hq0,Z7,k,a,nn,c,hx7,hZ7,hb7,hk,hh,hu5,hr5⟩:=hJ.2 (hall 10 (by decide))
 have HBK0:=Lib.hid hh
 obtain ⟨y,hy⟩:∃ y,y=t.blocks.getD k noBlk:=⟨_,rfl⟩
 rw [← hy] at hb7 HBK0
 have hZR:R < Z7:=by omega
 have HBK:=Lib.hid (fun (W:World) (hu:Upd R w5 W)=>(⟨hb7.updT hu (by omega),(HBK0.out W (hu5.trans hu)).2⟩:BkAt W Z7 (.int .i64 y.bef) (.int .i64 y.hgt) (.int .i64 y.view) (.slice a nn c) (.int .i64 y.root) (.int .i64 y.effs)∧RowA W a nn y.acts))
 have hsz5:G+2≤w5.heap.size:=by have:=hu5.size;omega
 have hZ7l:Z7 < w5.heap.size:=hb7.lt
 have HU5:=Lib.hid hu5
 clear hJ hall hq0 hh hy hb7 hu5 hr2
 obtain ⟨s1,hs1⟩:∃ s,blkSumM y=s:=⟨_,rfl⟩
 have hsb:=blkSumM_bd y
 rw [hs1] at hsb
 have HS1:=Lib.hid hs1
 obtain ⟨s0,hs0⟩:∃ s,max 0 s1=s:=⟨_,rfl⟩
 obtain ⟨v1,hv1⟩:∃ v,min 1000 y.view=v:=⟨_,rfl⟩
 obtain ⟨v0,hv0⟩:∃ v,max 0 v1=v:=⟨_,rfl⟩
 have hs0b:0≤s0∧s0≤1000002:=by omega
 have hv0b:0≤v0∧v0≤1000:=by omega
 have HS0:=Lib.hid hs0
 have HV1:=Lib.hid hv1
 have HV0:=Lib.hid hv0
 clear hs1 hs0 hv1 hv0
 simp only [mixF,List.contains_cons,List.contains_nil]
 go_simp
 clear hx7
 obtain ⟨P5,hP5⟩:∃ p,p=P2+1:=⟨_,rfl⟩
 rw [← hP5] at hr5
 go_upto_region 2 with (fail)
 refine wp_region_light (by kernel_rfl) (StoJ (fun lz fz wz=>WdJ R w5 (P5) [(8,1),(11,1)] [(0,18,Wd.is R (.agg #[.int .i64 y.bef,.int .i64 y.hgt,.int .i64 y.view,.slice a nn c,.int .i64 y.root,.int .i64 y.effs])),(1,19,Wd.is R (.int .i64 s1)),(2,20,Wd.is R (.int .i64 s0)),(3,21,Wd.is R (.pointer (some ⟨Z7,2,none⟩))),(4,22,Wd.is R (.int .i64 y.view)),(5,23,Wd.is R (.int .i64 v1)),(6,24,Wd.is R (.int .i64 v0)),(7,25,Wd.is R (.pointer (some ⟨R,0,none⟩))),(8,26,Wd.int R (0) (15)),(9,27,Wd.lit R 5 (0) (15)),(10,28,Wd.is R (.pointer (some ⟨R,0,none⟩))),(11,29,Wd.int R (0) (4)),(12,30,Wd.to R (0) (15)),(13,31,Wd.int R (0) (15)),(14,32,WdC R s0 v0),(15,8,WdCb R w5)] lz fz wz∧ClJ [(1,[0]),(2,[1]),(4,[3]),(5,[4]),(6,[5]),(8,[7]),(9,[8]),(11,[10]),(12,[9,11]),(13,[12]),(14,[2,6,13])] lz) (fun lz fz wz=>(∀ i,i < 16→lz i=true)∧∃ Zc x,fz 8 = .pointer (some ⟨Zc,0,none⟩)∧w5.heap.size≤Zc∧TrAt wz Zc (.int .i64 s0) (.int .i64 v0) (.int .i64 x)∧(0≤x∧x≤15)∧Upd R w5 wz∧Rd wz R (P5+2)) 16) 67 rfl [18,19,20,21,22,23,24,25,26,27,28,29,30,31,32,8] (by kernel_rfl) (by kernel_rfl) (by kernel_rfl) (fun f=>StoJ.nothing ⟨WdJ.nothing _ _ f hr5,ClJ.nothing _⟩) ?_ ?_
 · intro i hi
   rcases (by have:i < 17:=hi;omega:i=0∨i=1∨i=2∨i=3∨i=4∨i=5∨i=6∨i=7∨i=8∨i=9∨i=10∨i=11∨i=12∨i=13∨i=14∨i=15∨i=16) with rfl | rfl | rfl | rfl | rfl | rfl | rfl | rfl | rfl | rfl | rfl | rfl | rfl | rfl | rfl | rfl | rfl
   all_goals (clear hi;intro o ho lz fz w' A hJ0 hli ha hA K hK;obtain rfl:=Option.some.inj ho;clear ho)
   · have hM:=hJ0.ahead hli (fun hq=>hq.1 0 (by decide))
     obtain ⟨hJ,hC⟩:=hJ0.1 hM
     have gg7:=so hA 7 _ rfl
     simp only [List.getD_cons_succ,List.getD_cons_zero] at gg7
     rw [if_pos (by rfl)]
     obtain ⟨⟨k0,k1,k2,k3,k4,k5,-⟩,-⟩:=HBK.out w' hJ.upd
     have hF:=hK _ w' (StoJ.step 0 (by decide) hM ⟨hJ.stay 0 0 18 rfl rfl rfl rfl,hC.step 0 (by simp)⟩)
     clear hJ hJ0 ha hK hA hli hC hM;go_simp;exact hF
   · have hM:=hJ0.ahead hli (fun hq=>hq.1 1 (by decide))
     obtain ⟨hJ,hC⟩:=hJ0.1 hM
     have hbd:=costOf_le [(8,1),(11,1)] lz
     simp only [List.map_cons,List.map_nil,List.sum_cons,List.sum_nil] at hbd
     have gg18:=sj hA 18 (hJ.at 0 rfl (ha 0 (by decide)))
     rw [if_pos (by rfl)]
     clear hA
     go_simp
     refine (blockSum_specV y a nn c w' (HBK.out w' hJ.upd).2).mono ?_
     rintro e9 w9 ⟨rfl,hb9⟩
     rw [HS1.out]
     exact hK _ w9 (StoJ.step 1 (by decide) hM ⟨hJ.step 1 1 19 (.int .i64 s1) rfl rfl rfl (Upd.ofBelow R hb9) (hJ.same 1 (hJ.rd.below hb9)) rfl,hC.step 1 (by simp [ha 0 (by decide)])⟩)
   · have hM:=hJ0.ahead hli (fun hq=>hq.1 2 (by decide))
     obtain ⟨hJ,hC⟩:=hJ0.1 hM
     have gg19:=sj hA 19 (hJ.at 1 rfl (ha 1 (by decide)))
     rw [if_pos (by rfl)]
     have hmx:=HS0.out
     have hF:=hK _ w' (StoJ.step 2 (by decide) hM ⟨hJ.stay 2 2 20 rfl rfl rfl rfl,hC.step 2 (by simp [ha 1 (by decide)])⟩)
     clear hJ hJ0 ha hK hA hli hC hM;go_simp;exact hF
   · have hM:=hJ0.ahead hli (fun hq=>hq.1 3 (by decide))
     obtain ⟨hJ,hC⟩:=hJ0.1 hM
     have gg7:=so hA 7 _ rfl
     simp only [List.getD_cons_succ,List.getD_cons_zero] at gg7
     rw [if_pos (by rfl)]
     have hF:=hK _ w' (StoJ.step 3 (by decide) hM ⟨hJ.stay 3 3 21 rfl rfl rfl rfl,hC.step 3 (by simp)⟩)
     clear hJ hJ0 ha hK hA hli hC hM;go_simp;exact hF
   · have hM:=hJ0.ahead hli (fun hq=>hq.1 4 (by decide))
     obtain ⟨hJ,hC⟩:=hJ0.1 hM
     have gg21:=sj hA 21 (hJ.at 3 rfl (ha 3 (by decide)))
     rw [if_pos (by rfl)]
     obtain ⟨⟨k0,k1,k2,k3,k4,k5,-⟩,-⟩:=HBK.out w' hJ.upd
     have hF:=hK _ w' (StoJ.step 4 (by decide) hM ⟨hJ.stay 4 4 22 rfl rfl rfl rfl,hC.step 4 (by simp [ha 3 (by decide)])⟩)
     clear hJ hJ0 ha hK hA hli hC hM;go_simp;exact hF
   · have hM:=hJ0.ahead hli (fun hq=>hq.1 5 (by decide))
     obtain ⟨hJ,hC⟩:=hJ0.1 hM
     have gg22:=sj hA 22 (hJ.at 4 rfl (ha 4 (by decide)))
     rw [if_pos (by rfl)]
     have hmx:=HV1.out
     have hF:=hK _ w' (StoJ.step 5 (by decide) hM ⟨hJ.stay 5 5 23 rfl rfl rfl rfl,hC.step 5 (by simp [ha 4 (by decide)])⟩)
     clear hJ hJ0 ha hK hA hli hC hM;go_simp;exact hF
   · have hM:=hJ0.ahead hli (fun hq=>hq.1 6 (by decide))
     obtain ⟨hJ,hC⟩:=hJ0.1 hM
     have gg23:=sj hA 23 (hJ.at 5 rfl (ha 5 (by decide)))
     rw [if_pos (by rfl)]
     have hmx:=HV0.out
     have hF:=hK _ w' (StoJ.step 6 (by decide) hM ⟨hJ.stay 6 6 24 rfl rfl rfl rfl,hC.step 6 (by simp [ha 5 (by decide)])⟩)
     clear hJ hJ0 ha hK hA hli hC hM;go_simp;exact hF
   · have hM:=hJ0.ahead hli (fun hq=>hq.1 7 (by decide))
     obtain ⟨hJ,hC⟩:=hJ0.1 hM
     have gg0:=so hA 0 _ rfl
     simp only [List.getD_cons_succ,List.getD_cons_zero] at gg0
     rw [if_pos (by rfl)]
     have hF:=hK _ w' (StoJ.step 7 (by decide) hM ⟨hJ.stay 7 7 25 rfl rfl rfl rfl,hC.step 7 (by simp)⟩)
     clear hJ hJ0 ha hK hA hli hC hM;go_simp;exact hF
   · have hM:=hJ0.ahead hli (fun hq=>hq.1 8 (by decide))
     obtain ⟨hJ,hC⟩:=hJ0.1 hM
     have hbd:=costOf_le [(8,1),(11,1)] lz
     simp only [List.map_cons,List.map_nil,List.sum_cons,List.sum_nil] at hbd
     have gg25:=sj hA 25 (hJ.at 7 rfl (ha 7 (by decide)))
     rw [if_pos (by rfl)]
     clear hA
     go_simp
     refine (pick_pos R _ 16 w' hJ.rd (by omega) (by omega) (by omega)).mono ?_
     rintro e9 w9 ⟨x9,rfl,h90,h91,hr9,hu9⟩
     exact hK _ w9 (StoJ.step 8 (by decide) hM ⟨hJ.step 8 8 26 (.int .i64 x9) rfl rfl rfl hu9 (hJ.asked 8 (by simp) hli hr9) ⟨x9,rfl,by omega,by omega⟩,hC.step 8 (by simp [ha 7 (by decide)])⟩)
   · have hM:=hJ0.ahead hli (fun hq=>hq.1 9 (by decide))
     obtain ⟨hJ,hC⟩:=hJ0.1 hM
     have hbd:=costOf_le [(8,1),(11,1)] lz
     simp only [List.map_cons,List.map_nil,List.sum_cons,List.sum_nil] at hbd
     obtain ⟨x26,hx26,hl26,hu26⟩:=hJ.at 8 rfl (ha 8 (by decide))
     have gg26:=sj hA 26 hx26
     rw [if_pos (by rfl)]
     have hRw:=hJ.rd.lt
     have hlo:=wd_lit (w:=w') (R:=R) (n:=5) (T:=3) (lo:=0) (hi:=15) (cs:=[7,11,14,15,x26]) hRw rfl (by intro z hz;simp only [List.mem_cons,List.not_mem_nil,or_false] at hz;omega)
     have hF:=hK (.slice (some ⟨w'.heap.size,0,none⟩) 5 5) (w'.alloc (.cells #[.int .i64 (7),.int .i64 (11),.int .i64 (14),.int .i64 (15),.int .i64 (x26)] 3)) (StoJ.step 9 (by decide) hM ⟨hJ.step 9 9 27 (.slice (some ⟨w'.heap.size,0,none⟩) 5 5) rfl rfl rfl ((Upd.refl _ _).alloc _) (hJ.same 9 (hJ.rd.alloc _)) hlo,hC.step 9 (by simp [ha 8 (by decide)])⟩)
     clear hJ hJ0 ha hK hA hli hbd hC hM;go_simp;exact hF
   · have hM:=hJ0.ahead hli (fun hq=>hq.1 10 (by decide))
     obtain ⟨hJ,hC⟩:=hJ0.1 hM
     have gg0:=so hA 0 _ rfl
     simp only [List.getD_cons_succ,List.getD_cons_zero] at gg0
     rw [if_pos (by rfl)]
     have hF:=hK _ w' (StoJ.step 10 (by decide) hM ⟨hJ.stay 10 10 28 rfl rfl rfl rfl,hC.step 10 (by simp)⟩)
     clear hJ hJ0 ha hK hA hli hC hM;go_simp;exact hF
   · have hM:=hJ0.ahead hli (fun hq=>hq.1 11 (by decide))
     obtain ⟨hJ,hC⟩:=hJ0.1 hM
     have hbd:=costOf_le [(8,1),(11,1)] lz
     simp only [List.map_cons,List.map_nil,List.sum_cons,List.sum_nil] at hbd
     have gg28:=sj hA 28 (hJ.at 10 rfl (ha 10 (by decide)))
     rw [if_pos (by rfl)]
     clear hA
     go_simp
     refine (pick_pos R _ 5 w' hJ.rd (by omega) (by omega) (by omega)).mono ?_
     rintro e9 w9 ⟨x9,rfl,h90,h91,hr9,hu9⟩
     exact hK _ w9 (StoJ.step 11 (by decide) hM ⟨hJ.step 11 11 29 (.int .i64 x9) rfl rfl rfl hu9 (hJ.asked 11 (by simp) hli hr9) ⟨x9,rfl,by omega,by omega⟩,hC.step 11 (by simp [ha 10 (by decide)])⟩)
   · have hM:=hJ0.ahead hli (fun hq=>hq.1 12 (by decide))
     obtain ⟨hJ,hC⟩:=hJ0.1 hM
     have hbd:=costOf_le [(8,1),(11,1)] lz
     simp only [List.map_cons,List.map_nil,List.sum_cons,List.sum_nil] at hbd
     obtain ⟨q27,hx27,hg27,hc27⟩:=hJ.at 9 rfl (ha 9 (by decide))
     have gg27:=sj hA 27 hx27
     obtain ⟨x29,hx29,hl29,hu29⟩:=hJ.at 11 rfl (ha 11 (by decide))
     have gg29:=sj hA 29 hx29
     rw [if_pos (by rfl)]
     obtain ⟨y,hy,hy0,hy1⟩:=hc27 x29.toNat (by omega)
     have hx2:x29 < 5:=by omega
     have hF:=hK (.pointer (some ⟨q27,x29.toNat,none⟩)) w' (StoJ.step 12 (by decide) hM ⟨hJ.stay 12 12 30 rfl rfl rfl ⟨_,_,rfl,hg27,y,hy,hy0,hy1⟩,hC.step 12 (by simp [ha 9 (by decide),ha 11 (by decide)])⟩)
     clear hJ hJ0 ha hK hA hli hbd hC hM;go_simp;exact hF
   · have hM:=hJ0.ahead hli (fun hq=>hq.1 13 (by decide))
     obtain ⟨hJ,hC⟩:=hJ0.1 hM
     have hbd:=costOf_le [(8,1),(11,1)] lz
     simp only [List.map_cons,List.map_nil,List.sum_cons,List.sum_nil] at hbd
     obtain ⟨q30,i30,hx30,hg30,y30,hy30,hl30,hu30⟩:=hJ.at 12 rfl (ha 12 (by decide))
     have gg30:=sj hA 30 hx30
     rw [if_pos (by rfl)]
     have hF:=hK (.int .i64 y30) w' (StoJ.step 13 (by decide) hM ⟨hJ.stay 13 13 31 rfl rfl rfl ⟨_,rfl,hl30,hu30⟩,hC.step 13 (by simp [ha 12 (by decide)])⟩)
     clear hJ hJ0 ha hK hA hli hbd hC hM;go_simp;exact hF
   · have hM:=hJ0.ahead hli (fun hq=>hq.1 14 (by decide))
     obtain ⟨hJ,hC⟩:=hJ0.1 hM
     have hbd:=costOf_le [(8,1),(11,1)] lz
     simp only [List.map_cons,List.map_nil,List.sum_cons,List.sum_nil] at hbd
     have gg20:=sj hA 20 (hJ.at 2 rfl (ha 2 (by decide)))
     have gg24:=sj hA 24 (hJ.at 6 rfl (ha 6 (by decide)))
     obtain ⟨x31,hx31,hl31,hu31⟩:=hJ.at 13 rfl (ha 13 (by decide))
     have gg31:=sj hA 31 hx31
     rw [if_pos (by rfl)]
     have hF:=hK (.agg #[.int .i64 s0,.int .i64 v0,.int .i64 x31]) w' (StoJ.step 14 (by decide) hM ⟨hJ.stay 14 14 32 rfl rfl rfl ⟨x31,rfl,hl31,hu31⟩,hC.step 14 (by simp [ha 2 (by decide),ha 6 (by decide),ha 13 (by decide)])⟩)
     clear hJ hJ0 ha hK hA hli hbd hC hM;go_simp;exact hF
   · have hM:=hJ0.ahead hli (fun hq=>hq.1 15 (by decide))
     obtain ⟨hJ,hC⟩:=hJ0.1 hM
     have hbd:=costOf_le [(8,1),(11,1)] lz
     simp only [List.map_cons,List.map_nil,List.sum_cons,List.sum_nil] at hbd
     rw [if_pos (by rfl)]
     have hF:=hK (.pointer (some ⟨w'.heap.size,0,none⟩)) (w'.alloc (.cells #[.int .i64 0,.int .i64 0,.int .i64 0] 29)) (StoJ.step 15 (by decide) hM ⟨hJ.step 15 15 8 (.pointer (some ⟨w'.heap.size,0,none⟩)) rfl rfl rfl ((Upd.refl _ _).alloc _) (hJ.same 15 (hJ.rd.alloc _)) ⟨_,rfl,hJ.upd.size,hJ.rd.lt,trAt_new w' _ _ _ _⟩,hC.step 15 (by simp)⟩)
     clear hJ hJ0 ha hK hA hli hbd hC hM
     go_simp
     exact hF
   · obtain ⟨hJ,hC⟩:=hJ0.1 hli
     have hbd:=costOf_le [(8,1),(11,1)] lz
     simp only [List.map_cons,List.map_nil,List.sum_cons,List.sum_nil] at hbd
     obtain ⟨Z8,hx8,hZ8,hR8,hb8⟩:=hJ.at 15 rfl (ha 15 (by decide))
     have gg8:=sj hA 8 hx8
     obtain ⟨x32,hx32,hl32,hu32⟩:=hJ.at 14 rfl (ha 14 (by decide))
     have gg32:=sj hA 32 hx32
     rw [if_pos (by rfl)]
     have l15:lz 15=true:=ha 15 (by decide)
     have l14:lz 14=true:=ha 14 (by decide)
     have l2:lz 2=true:=hC (14,[2,6,13]) (by simp) l14 2 (by simp)
     have l1:lz 1=true:=hC (2,[1]) (by simp) l2 1 (by simp)
     have l0:lz 0=true:=hC (1,[0]) (by simp) l1 0 (by simp)
     have l6:lz 6=true:=hC (14,[2,6,13]) (by simp) l14 6 (by simp)
     have l5:lz 5=true:=hC (6,[5]) (by simp) l6 5 (by simp)
     have l4:lz 4=true:=hC (5,[4]) (by simp) l5 4 (by simp)
     have l3:lz 3=true:=hC (4,[3]) (by simp) l4 3 (by simp)
     have l13:lz 13=true:=hC (14,[2,6,13]) (by simp) l14 13 (by simp)
     have l12:lz 12=true:=hC (13,[12]) (by simp) l13 12 (by simp)
     have l9:lz 9=true:=hC (12,[9,11]) (by simp) l12 9 (by simp)
     have l8:lz 8=true:=hC (9,[8]) (by simp) l9 8 (by simp)
     have l7:lz 7=true:=hC (8,[7]) (by simp) l8 7 (by simp)
     have l11:lz 11=true:=hC (12,[9,11]) (by simp) l12 11 (by simp)
     have l10:lz 10=true:=hC (11,[10]) (by simp) l11 10 (by simp)
     have hall:∀ i,i < 17→(i == 16 || lz i)=true:=fun i hi =>by
      rcases (by omega:i=0∨i=1∨i=2∨i=3∨i=4∨i=5∨i=6∨i=7∨i=8∨i=9∨i=10∨i=11∨i=12∨i=13∨i=14∨i=15∨i=16) with rfl | rfl | rfl | rfl | rfl | rfl | rfl | rfl | rfl | rfl | rfl | rfl | rfl | rfl | rfl | rfl | rfl <;> simp [*]
     have hbf:=hb8.set3b (.int .i64 s0) (.int .i64 v0) (.int .i64 x32)
     have hupd:=set3b_upd (v1:=.int .i64 s0) (v2:=.int .i64 v0) (v3:=.int .i64 x32) hJ.upd hZ8
     have hrd:=set3b_rd (v1:=.int .i64 s0) (v2:=.int .i64 v0) (v3:=.int .i64 x32) (hJ.rd.mono (show _≤P5+2 by omega)) hR8
     obtain ⟨z0,z1,z2,f0,f1,f2⟩:=hb8
     have hF:=hK undef _ (StoJ.at ⟨fun i hi=>hall i (by omega),_,x32,by simpa using hx8,hZ8,hbf,⟨hl32,hu32⟩,hupd,hrd⟩)
     clear hJ hJ0 ha hK hA hli hbd hC hall hupd hrd hbf
     unfold set3b at hF;go_simp;exact hF
 intro lz fz w8 hall hJ
 obtain ⟨hq0,Z8,x8,hx8,hZ8,hb8,hxb,hu8,hr8⟩:=hJ.2 (hall 16 (by decide))
 have hu28:=HU5.out.trans hu8
 have hZ8R:R < Z8:=by omega
 have hZ82:w2.heap.size≤Z8:=by have:=HU5.out.size;omega
 rw [hP5] at hr8
 have hr8':Rd w8 R (P2+3):=hr8
 clear hJ hall hq0 hu8 hr8
 simp only [mixF,List.contains_cons,List.contains_nil]
 go_simp
 clear hx8 HBK HS1 HS0 HV1 HV0 hsz5 hZ7l HU5 HBX HBK0 HHD
 have HFIN:=Lib.hid (fun (F:World) (s v g:Int) (hs : -1≤s∧s≤1000003) (hv : -1≤v∧v≤1001) (hg : -1≤g∧g≤16) (hu:Upd R w2 F) (hr:Rd F R (P2+7))=>(⟨s,v,g,rfl,hs,hv,hg,by rw [HP2.out] at hr;exact set3b_rd hr (by omega),set3b_upd (HU0.out.trans hu) (by have:=HGE.out;omega)⟩:DrawCt w R P 7 (.returned (.agg #[.int .i64 s,.int .i64 v,.int .i64 g])) (set3b F (G+1) (.int .i64 s) (.int .i64 v) (.int .i64 g))))
 go_wp2_with fail
 refine (odd_any R _ 9 _ hr8' (by omega) (by omega) (by omega)).mono ?_;rintro e w9 ⟨x3,rfl,hr9,hu9⟩
 have hb9:=hb8.upd hu9 (by omega)
 have hu29:=hu28.trans hu9
 clear hb8 hu28 hr8' hu9
 cases x3 with
 | false =>
  go_wp2_with fail
  refine (odd_any R _ n _ hr9 (by omega) (by omega) hn0).mono ?_;rintro e wA ⟨xA,rfl,hrA,huA⟩
  have hbA:=hb9.upd huA (by omega)
  have hu2A:=hu29.trans huA
  clear hb9 hu29 hr9 huA
  cases xA with
  | false =>
   have hE:=HEX.out wA hu2A
   have HF:=Lib.hid (hE.set3b (.int .i64 s0) (.int .i64 v0) (.int .i64 x8))
   have HRET:=Lib.hid (HFIN.out wA s0 v0 x8 (by omega) (by omega) (by omega) hu2A (hrA.mono (by omega)))
   obtain ⟨e0,e1,e2,f0,f1,f2⟩:=hE
   obtain ⟨c0,c1,c2,-⟩:=hbA
   unfold set3b at HF HRET
   clear hu2A hrA HFIN HEX
   go_wp2_with fail
   exact bodyPost_ret (results_crt Tryz.results68 _ (by rfl) HF.out) rfl HRET.out
  | true =>
   go_wp2_with fail
   refine (pick_pos R _ 3 _ hrA (by omega) (by omega) (by omega)).mono ?_;rintro e wB ⟨xB,rfl,hB0,hB1,hrB,huB⟩
   have hbB:=hbA.upd huB (by omega)
   have hu2B:=hu2A.trans huB
   clear hbA hu2A hrA huB
   rcases (by omega:xB=0∨xB=1∨xB=2) with rfl | rfl | rfl
   · have HP:=Lib.hid (pick_pos R _ 2 (wB.alloc (.cells #[.int .i64 (-1),.int .i64 1000003] 3)) (hrB.alloc _) (by omega) (by omega) (by omega))
     have ha0:(wB.alloc (.cells #[.int .i64 (-1),.int .i64 1000003] 3)).cell? ⟨wB.heap.size,0,none⟩=some (.int .i64 (-1)):=by simp [go_sem]
     have ha1:(wB.alloc (.cells #[.int .i64 (-1),.int .i64 1000003] 3)).cell? ⟨wB.heap.size,1,none⟩=some (.int .i64 1000003):=by simp [go_sem]
     have hRB:=hrB.lt
     have hbC0:=hbB.upd ((Upd.refl R wB).alloc (.cells #[.int .i64 (-1),.int .i64 1000003] 3)) (by omega)
     have huC0:=hu2B.alloc (.cells #[.int .i64 (-1),.int .i64 1000003] 3)
     clear hbB hu2B hrB
     go_wp2_with fail
     refine HP.out.mono ?_;rintro e wC ⟨xi,rfl,hi0,hi1,hrC,huC⟩
     obtain ⟨j,rfl⟩:∃ j:Nat,xi=j:=⟨xi.toNat,by omega⟩
     obtain ⟨z,hz,hzb⟩:∃ z:Int,wC.cell? ⟨wB.heap.size,j,none⟩=some (.int .i64 z)∧-1≤z∧z≤1000003:=by
      rcases (by omega:j=0∨j=1) with rfl | rfl
      · exact ⟨_,huC.cell ha0 (by omega),by omega,by omega⟩
      · exact ⟨_,huC.cell ha1 (by omega),by omega,by omega⟩
     have hbC:=hbC0.upd huC (by omega)
     have hu2C:=huC0.trans huC
     clear ha0 ha1 hRB hbC0 huC0 huC HP
     obtain ⟨B8,hB8⟩:∃ B8,B8=wB.heap.size:=⟨_,rfl⟩
     rw [← hB8] at hz ⊢
     clear hB8
     have hbD:=hbC.set0 (.int .i64 z)
     have hu2D:=hu2C.setNewT (o:=0) (v:=.int .i64 z) hZ82
     have hrD:=hrC.setT (o:=0) (v:=.int .i64 z) hZ8R
     obtain ⟨c0,c1,c2,f0,f1,f2⟩:=hbC
     go_upto_region 12 with (fail)
     clear c0 c1 c2 f0 f1 f2 hz
     generalize hww:World.setCell wC _ _=wD at hbD hu2D hrD ⊢
     clear hww hrC hu2C
     have hE:=HEX.out wD hu2D
     have HF:=Lib.hid (hE.set3b (.int .i64 z) (.int .i64 v0) (.int .i64 x8))
     have HRET:=Lib.hid (HFIN.out wD z v0 x8 (by omega) (by omega) (by omega) hu2D (hrD.mono (by omega)))
     obtain ⟨e0,e1,e2,f0,f1,f2⟩:=hE
     obtain ⟨c0,c1,c2,-⟩:=hbD
     unfold set3b at HF HRET
     clear hu2D hrD HFIN HEX
     go_wp2_with fail
     exact bodyPost_ret (results_crt Tryz.results68 _ (by rfl) HF.out) rfl HRET.out
   · have HP:=Lib.hid (pick_pos R _ 2 (wB.alloc (.cells #[.int .i64 (-1),.int .i64 1001] 3)) (hrB.alloc _) (by omega) (by omega) (by omega))
     have ha0:(wB.alloc (.cells #[.int .i64 (-1),.int .i64 1001] 3)).cell? ⟨wB.heap.size,0,none⟩=some (.int .i64 (-1)):=by simp [go_sem]
     have ha1:(wB.alloc (.cells #[.int .i64 (-1),.int .i64 1001] 3)).cell? ⟨wB.heap.size,1,none⟩=some (.int .i64 1001):=by simp [go_sem]
     have hRB:=hrB.lt
     have hbC0:=hbB.upd ((Upd.refl R wB).alloc (.cells #[.int .i64 (-1),.int .i64 1001] 3)) (by omega)
     have huC0:=hu2B.alloc (.cells #[.int .i64 (-1),.int .i64 1001] 3)
     clear hbB hu2B hrB
     go_wp2_with fail
     refine HP.out.mono ?_;rintro e wC ⟨xi,rfl,hi0,hi1,hrC,huC⟩
     obtain ⟨j,rfl⟩:∃ j:Nat,xi=j:=⟨xi.toNat,by omega⟩
     obtain ⟨z,hz,hzb⟩:∃ z:Int,wC.cell? ⟨wB.heap.size,j,none⟩=some (.int .i64 z)∧-1≤z∧z≤1001:=by
      rcases (by omega:j=0∨j=1) with rfl | rfl
      · exact ⟨_,huC.cell ha0 (by omega),by omega,by omega⟩
      · exact ⟨_,huC.cell ha1 (by omega),by omega,by omega⟩
     have hbC:=hbC0.upd huC (by omega)
     have hu2C:=huC0.trans huC
     clear ha0 ha1 hRB hbC0 huC0 huC HP
     obtain ⟨B8,hB8⟩:∃ B8,B8=wB.heap.size:=⟨_,rfl⟩
     rw [← hB8] at hz ⊢
     clear hB8
     have hbD:=hbC.set1 (.int .i64 z)
     have hu2D:=hu2C.setNewT (o:=1) (v:=.int .i64 z) hZ82
     have hrD:=hrC.setT (o:=1) (v:=.int .i64 z) hZ8R
     obtain ⟨c0,c1,c2,f0,f1,f2⟩:=hbC
     go_upto_region 12 with (fail)
     clear c0 c1 c2 f0 f1 f2 hz
     generalize hww:World.setCell wC _ _=wD at hbD hu2D hrD ⊢
     clear hww hrC hu2C
     have hE:=HEX.out wD hu2D
     have HF:=Lib.hid (hE.set3b (.int .i64 s0) (.int .i64 z) (.int .i64 x8))
     have HRET:=Lib.hid (HFIN.out wD s0 z x8 (by omega) (by omega) (by omega) hu2D (hrD.mono (by omega)))
     obtain ⟨e0,e1,e2,f0,f1,f2⟩:=hE
     obtain ⟨c0,c1,c2,-⟩:=hbD
     unfold set3b at HF HRET
     clear hu2D hrD HFIN HEX
     go_wp2_with fail
     exact bodyPost_ret (results_crt Tryz.results68 _ (by rfl) HF.out) rfl HRET.out
   · have HP:=Lib.hid (pick_pos R _ 2 (wB.alloc (.cells #[.int .i64 (-1),.int .i64 16] 3)) (hrB.alloc _) (by omega) (by omega) (by omega))
     have ha0:(wB.alloc (.cells #[.int .i64 (-1),.int .i64 16] 3)).cell? ⟨wB.heap.size,0,none⟩=some (.int .i64 (-1)):=by simp [go_sem]
     have ha1:(wB.alloc (.cells #[.int .i64 (-1),.int .i64 16] 3)).cell? ⟨wB.heap.size,1,none⟩=some (.int .i64 16):=by simp [go_sem]
     have hRB:=hrB.lt
     have hbC0:=hbB.upd ((Upd.refl R wB).alloc (.cells #[.int .i64 (-1),.int .i64 16] 3)) (by omega)
     have huC0:=hu2B.alloc (.cells #[.int .i64 (-1),.int .i64 16] 3)
     clear hbB hu2B hrB
     go_wp2_with fail
     refine HP.out.mono ?_;rintro e wC ⟨xi,rfl,hi0,hi1,hrC,huC⟩
     obtain ⟨j,rfl⟩:∃ j:Nat,xi=j:=⟨xi.toNat,by omega⟩
     obtain ⟨z,hz,hzb⟩:∃ z:Int,wC.cell? ⟨wB.heap.size,j,none⟩=some (.int .i64 z)∧-1≤z∧z≤16:=by
      rcases (by omega:j=0∨j=1) with rfl | rfl
      · exact ⟨_,huC.cell ha0 (by omega),by omega,by omega⟩
      · exact ⟨_,huC.cell ha1 (by omega),by omega,by omega⟩
     have hbC:=hbC0.upd huC (by omega)
     have hu2C:=huC0.trans huC
     clear ha0 ha1 hRB hbC0 huC0 huC HP
     obtain ⟨B8,hB8⟩:∃ B8,B8=wB.heap.size:=⟨_,rfl⟩
     rw [← hB8] at hz ⊢
     clear hB8
     have hbD:=hbC.set2 (.int .i64 z)
     have hu2D:=hu2C.setNewT (o:=2) (v:=.int .i64 z) hZ82
     have hrD:=hrC.setT (o:=2) (v:=.int .i64 z) hZ8R
     obtain ⟨c0,c1,c2,f0,f1,f2⟩:=hbC
     go_upto_region 12 with (fail)
     clear c0 c1 c2 f0 f1 f2 hz
     generalize hww:World.setCell wC _ _=wD at hbD hu2D hrD ⊢
     clear hww hrC hu2C
     have hE:=HEX.out wD hu2D
     have HF:=Lib.hid (hE.set3b (.int .i64 s0) (.int .i64 v0) (.int .i64 z))
     have HRET:=Lib.hid (HFIN.out wD s0 v0 z (by omega) (by omega) (by omega) hu2D (hrD.mono (by omega)))
     obtain ⟨e0,e1,e2,f0,f1,f2⟩:=hE
     obtain ⟨c0,c1,c2,-⟩:=hbD
     unfold set3b at HF HRET
     clear hu2D hrD HFIN HEX
     go_wp2_with fail
     exact bodyPost_ret (results_crt Tryz.results68 _ (by rfl) HF.out) rfl HRET.out
 | true =>
  have hvw:IntKind.i64.wrap (v0+1)=v0+1:=IntWalk.i64_in _ (by omega)
  have hb10:=hb9.set1 (.int .i64 (v0+1))
  have hu210:=hu29.setNewT (o:=1) (v:=.int .i64 (v0+1)) hZ82
  have hr10:=hr9.setT (o:=1) (v:=.int .i64 (v0+1)) hZ8R
  obtain ⟨c0,c1,c2,f0,f1,f2⟩:=hb9
  go_upto_region 5 with (fail)
  clear c0 c1 c2 f0 f1 f2 hvw
  obtain ⟨vx,hvx⟩:∃ x,x=v0+1:=⟨_,rfl⟩
  have hvxb:0≤vx∧vx≤1001:=by omega
  rw [← hvx] at hb10 hu210 hr10 ⊢
  clear hvx
  generalize hww:World.setCell w9 _ _=w10 at hb10 hu210 hr10 ⊢
  clear hww hr9 hu29
  go_wp2_with fail
  refine (odd_any R _ n _ hr10 (by omega) (by omega) hn0).mono ?_;rintro e wA ⟨xA,rfl,hrA,huA⟩
  have hbA:=hb10.upd huA (by omega)
  have hu2A:=hu210.trans huA
  clear hb10 hu210 hr10 huA
  cases xA with
  | false =>
   have hE:=HEX.out wA hu2A
   have HF:=Lib.hid (hE.set3b (.int .i64 s0) (.int .i64 vx) (.int .i64 x8))
   have HRET:=Lib.hid (HFIN.out wA s0 vx x8 (by omega) (by omega) (by omega) hu2A (hrA.mono (by omega)))
   obtain ⟨e0,e1,e2,f0,f1,f2⟩:=hE
   obtain ⟨c0,c1,c2,-⟩:=hbA
   unfold set3b at HF HRET
   clear hu2A hrA HFIN HEX
   go_wp2_with fail
   exact bodyPost_ret (results_crt Tryz.results68 _ (by rfl) HF.out) rfl HRET.out
  | true =>
   go_wp2_with fail
   refine (pick_pos R _ 3 _ hrA (by omega) (by omega) (by omega)).mono ?_;rintro e wB ⟨xB,rfl,hB0,hB1,hrB,huB⟩
   have hbB:=hbA.upd huB (by omega)
   have hu2B:=hu2A.trans huB
   clear hbA hu2A hrA huB
   rcases (by omega:xB=0∨xB=1∨xB=2) with rfl | rfl | rfl
   · have HP:=Lib.hid (pick_pos R _ 2 (wB.alloc (.cells #[.int .i64 (-1),.int .i64 1000003] 3)) (hrB.alloc _) (by omega) (by omega) (by omega))
     have ha0:(wB.alloc (.cells #[.int .i64 (-1),.int .i64 1000003] 3)).cell? ⟨wB.heap.size,0,none⟩=some (.int .i64 (-1)):=by simp [go_sem]
     have ha1:(wB.alloc (.cells #[.int .i64 (-1),.int .i64 1000003] 3)).cell? ⟨wB.heap.size,1,none⟩=some (.int .i64 1000003):=by simp [go_sem]
     have hRB:=hrB.lt
     have hbC0:=hbB.upd ((Upd.refl R wB).alloc (.cells #[.int .i64 (-1),.int .i64 1000003] 3)) (by omega)
     have huC0:=hu2B.alloc (.cells #[.int .i64 (-1),.int .i64 1000003] 3)
     clear hbB hu2B hrB
     go_wp2_with fail
     refine HP.out.mono ?_;rintro e wC ⟨xi,rfl,hi0,hi1,hrC,huC⟩
     obtain ⟨j,rfl⟩:∃ j:Nat,xi=j:=⟨xi.toNat,by omega⟩
     obtain ⟨z,hz,hzb⟩:∃ z:Int,wC.cell? ⟨wB.heap.size,j,none⟩=some (.int .i64 z)∧-1≤z∧z≤1000003:=by
      rcases (by omega:j=0∨j=1) with rfl | rfl
      · exact ⟨_,huC.cell ha0 (by omega),by omega,by omega⟩
      · exact ⟨_,huC.cell ha1 (by omega),by omega,by omega⟩
     have hbC:=hbC0.upd huC (by omega)
     have hu2C:=huC0.trans huC
     clear ha0 ha1 hRB hbC0 huC0 huC HP
     obtain ⟨B8,hB8⟩:∃ B8,B8=wB.heap.size:=⟨_,rfl⟩
     rw [← hB8] at hz ⊢
     clear hB8
     have hbD:=hbC.set0 (.int .i64 z)
     have hu2D:=hu2C.setNewT (o:=0) (v:=.int .i64 z) hZ82
     have hrD:=hrC.setT (o:=0) (v:=.int .i64 z) hZ8R
     obtain ⟨c0,c1,c2,f0,f1,f2⟩:=hbC
     go_upto_region 12 with (fail)
     clear c0 c1 c2 f0 f1 f2 hz
     generalize hww:World.setCell wC _ _=wD at hbD hu2D hrD ⊢
     clear hww hrC hu2C
     have hE:=HEX.out wD hu2D
     have HF:=Lib.hid (hE.set3b (.int .i64 z) (.int .i64 vx) (.int .i64 x8))
     have HRET:=Lib.hid (HFIN.out wD z vx x8 (by omega) (by omega) (by omega) hu2D (hrD.mono (by omega)))
     obtain ⟨e0,e1,e2,f0,f1,f2⟩:=hE
     obtain ⟨c0,c1,c2,-⟩:=hbD
     unfold set3b at HF HRET
     clear hu2D hrD HFIN HEX
     go_wp2_with fail
     exact bodyPost_ret (results_crt Tryz.results68 _ (by rfl) HF.out) rfl HRET.out
   · have HP:=Lib.hid (pick_pos R _ 2 (wB.alloc (.cells #[.int .i64 (-1),.int .i64 1001] 3)) (hrB.alloc _) (by omega) (by omega) (by omega))
     have ha0:(wB.alloc (.cells #[.int .i64 (-1),.int .i64 1001] 3)).cell? ⟨wB.heap.size,0,none⟩=some (.int .i64 (-1)):=by simp [go_sem]
     have ha1:(wB.alloc (.cells #[.int .i64 (-1),.int .i64 1001] 3)).cell? ⟨wB.heap.size,1,none⟩=some (.int .i64 1001):=by simp [go_sem]
     have hRB:=hrB.lt
     have hbC0:=hbB.upd ((Upd.refl R wB).alloc (.cells #[.int .i64 (-1),.int .i64 1001] 3)) (by omega)
     have huC0:=hu2B.alloc (.cells #[.int .i64 (-1),.int .i64 1001] 3)
     clear hbB hu2B hrB
     go_wp2_with fail
     refine HP.out.mono ?_;rintro e wC ⟨xi,rfl,hi0,hi1,hrC,huC⟩
     obtain ⟨j,rfl⟩:∃ j:Nat,xi=j:=⟨xi.toNat,by omega⟩
     obtain ⟨z,hz,hzb⟩:∃ z:Int,wC.cell? ⟨wB.heap.size,j,none⟩=some (.int .i64 z)∧-1≤z∧z≤1001:=by
      rcases (by omega:j=0∨j=1) with rfl | rfl
      · exact ⟨_,huC.cell ha0 (by omega),by omega,by omega⟩
      · exact ⟨_,huC.cell ha1 (by omega),by omega,by omega⟩
     have hbC:=hbC0.upd huC (by omega)
     have hu2C:=huC0.trans huC
     clear ha0 ha1 hRB hbC0 huC0 huC HP
     obtain ⟨B8,hB8⟩:∃ B8,B8=wB.heap.size:=⟨_,rfl⟩
     rw [← hB8] at hz ⊢
     clear hB8
     have hbD:=hbC.set1 (.int .i64 z)
     have hu2D:=hu2C.setNewT (o:=1) (v:=.int .i64 z) hZ82
     have hrD:=hrC.setT (o:=1) (v:=.int .i64 z) hZ8R
     obtain ⟨c0,c1,c2,f0,f1,f2⟩:=hbC
     go_upto_region 12 with (fail)
     clear c0 c1 c2 f0 f1 f2 hz
     generalize hww:World.setCell wC _ _=wD at hbD hu2D hrD ⊢
     clear hww hrC hu2C
     have hE:=HEX.out wD hu2D
     have HF:=Lib.hid (hE.set3b (.int .i64 s0) (.int .i64 z) (.int .i64 x8))
     have HRET:=Lib.hid (HFIN.out wD s0 z x8 (by omega) (by omega) (by omega) hu2D (hrD.mono (by omega)))
     obtain ⟨e0,e1,e2,f0,f1,f2⟩:=hE
     obtain ⟨c0,c1,c2,-⟩:=hbD
     unfold set3b at HF HRET
     clear hu2D hrD HFIN HEX
     go_wp2_with fail
     exact bodyPost_ret (results_crt Tryz.results68 _ (by rfl) HF.out) rfl HRET.out
   · have HP:=Lib.hid (pick_pos R _ 2 (wB.alloc (.cells #[.int .i64 (-1),.int .i64 16] 3)) (hrB.alloc _) (by omega) (by omega) (by omega))
     have ha0:(wB.alloc (.cells #[.int .i64 (-1),.int .i64 16] 3)).cell? ⟨wB.heap.size,0,none⟩=some (.int .i64 (-1)):=by simp [go_sem]
     have ha1:(wB.alloc (.cells #[.int .i64 (-1),.int .i64 16] 3)).cell? ⟨wB.heap.size,1,none⟩=some (.int .i64 16):=by simp [go_sem]
     have hRB:=hrB.lt
     have hbC0:=hbB.upd ((Upd.refl R wB).alloc (.cells #[.int .i64 (-1),.int .i64 16] 3)) (by omega)
     have huC0:=hu2B.alloc (.cells #[.int .i64 (-1),.int .i64 16] 3)
     clear hbB hu2B hrB
     go_wp2_with fail
     refine HP.out.mono ?_;rintro e wC ⟨xi,rfl,hi0,hi1,hrC,huC⟩
     obtain ⟨j,rfl⟩:∃ j:Nat,xi=j:=⟨xi.toNat,by omega⟩
     obtain ⟨z,hz,hzb⟩:∃ z:Int,wC.cell? ⟨wB.heap.size,j,none⟩=some (.int .i64 z)∧-1≤z∧z≤16:=by
      rcases (by omega:j=0∨j=1) with rfl | rfl
      · exact ⟨_,huC.cell ha0 (by omega),by omega,by omega⟩
      · exact ⟨_,huC.cell ha1 (by omega),by omega,by omega⟩
     have hbC:=hbC0.upd huC (by omega)
     have hu2C:=huC0.trans huC
     clear ha0 ha1 hRB hbC0 huC0 huC HP
     obtain ⟨B8,hB8⟩:∃ B8,B8=wB.heap.size:=⟨_,rfl⟩
     rw [← hB8] at hz ⊢
     clear hB8
     have hbD:=hbC.set2 (.int .i64 z)
     have hu2D:=hu2C.setNewT (o:=2) (v:=.int .i64 z) hZ82
     have hrD:=hrC.setT (o:=2) (v:=.int .i64 z) hZ8R
     obtain ⟨c0,c1,c2,f0,f1,f2⟩:=hbC
     go_upto_region 12 with (fail)
     clear c0 c1 c2 f0 f1 f2 hz
     generalize hww:World.setCell wC _ _=wD at hbD hu2D hrD ⊢
     clear hww hrC hu2C
     have hE:=HEX.out wD hu2D
     have HF:=Lib.hid (hE.set3b (.int .i64 s0) (.int .i64 vx) (.int .i64 z))
     have HRET:=Lib.hid (HFIN.out wD s0 vx z (by omega) (by omega) (by omega) hu2D (hrD.mono (by omega)))
     obtain ⟨e0,e1,e2,f0,f1,f2⟩:=hE
     obtain ⟨c0,c1,c2,-⟩:=hbD
     unfold set3b at HF HRET
     clear hu2D hrD HFIN HEX
     go_wp2_with fail
     exact bodyPost_ret (results_crt Tryz.results68 _ (by rfl) HF.out) rfl HRET.out
def WdAct (R:Nat):Wd R:=⟨fun v w=>∃ p q r t:Int,v = .agg #[.int .i64 p,.int .i64 q,.int .i64 r,.int .i64 t]∧WfA ⟨p,q,r,t⟩,fun v w w' ⟨p,q,r,t,h1,h2⟩ hu=>⟨p,q,r,t,h1,h2⟩⟩
theorem rowA_lit {w:World} {p q r t:Int} {ty:TypeId} (h:WfA ⟨p,q,r,t⟩):RowA (w.alloc (.cells #[.int .i64 p,.int .i64 q,.int .i64 r,.int .i64 t] ty)) (some ⟨w.heap.size,0,none⟩) ([⟨p,q,r,t⟩]:List Acn).length [⟨p,q,r,t⟩] :=
 ⟨rfl,by unfold maxLen;simp,fun _=>⟨w.heap.size,0,rfl,fun i hi=>by
  obtain rfl:i=0:=by simp at hi;omega
  simp [go_sem]⟩,fun x hx=>by simp at hx;subst hx;exact h⟩
set_option maxRecDepth 100000 in
set_option maxHeartbeats 16000000 in
theorem l20Line_any (R P:Nat) (n:Int) (w:World) (h:Rd w R P) (hP:P≤500000) (hn0:0≤n) (hn:n≤1000) :
  Calls Tryz.prog 116 #[.pointer (some ⟨R,0,none⟩),.int .i64 n] w (DrawTr w R P 4000):=by
 have hRw:=h.lt
 have HRW:=Lib.hid hRw
 have HG0:=Lib.hid (trAt_new w 27 (.slice none 0 0) (.slice none 0 0) (.slice none 0 0))
 go_enter Tryz.func116,Tryz.ntmps116
 go_wp2_with fail
 refine (l20Store_valid R P _ (h.alloc _) (by omega)).mono ?_;rintro e w2 ⟨v0,S,rfl,hoS,hwS,hSv,hr2,hu2⟩
 have hSl:=store_len hSv
 obtain ⟨g0,c0,rfl,hg0,hrS⟩:=rowE_of_own hoS (by omega) hwS
 have hu02:=((Upd.refl R w).alloc _).trans hu2
 have HG2:=Lib.hid (HG0.out.upd hu2 (by omega))
 clear h hoS
 go_wp2_with fail
 refine (treeOf_spec _ _ c0 S _ hrS (by intro h;cases h)).mono ?_;rintro e w4 ⟨x1,x2,x3,ts,rfl,ho4,hb4⟩
 obtain ⟨b1,m1,d1,b2,m2,d2,b3,m3,d3,rfl,rfl,rfl⟩:=trRd_formD ho4.rd
 go_upto_region 2 with (fail)
 have HS2:Hid (R < w2.heap.size∧w.heap.size < w2.heap.size):=Lib.hid (by have:=HG2.out.lt;omega)
 have hU4:=hu02.trans (Upd.ofBelow R hb4)
 have hR4:=hr2.below hb4
 have hG4:=HG2.out.below hb4
 have hS4:=hb4.size
 have HTV:=Lib.hid (treOf_ok hSv)
 clear hrS hr2 hu02 hu2 hb4 hg0 hwS HG2 HG0
 generalize hw5:World.alloc _ _=w5
 have hb5:Below w4.heap.size w4 w5:=by rw [← hw5];exact (Below.refl _ _).alloc (Nat.le_refl _) _
 have hA5:TrAt w5 w4.heap.size (.slice b1 m1 d1) (.slice b2 m2 d2) (.slice b3 m3 d3):=by rw [← hw5];exact trAt_new w4 _ _ _ _
 obtain ⟨Z,hZ⟩:∃ Z,Z=w4.heap.size:=⟨_,rfl⟩
 have hD5:TrD w w5 R (P+60) Z w.heap.size w2.heap.size w4.heap.size tTre (.slice b1 m1 d1) (.slice b2 m2 d2) (.slice b3 m3 d3) (treOfM S) ts :=
  ⟨by rw [hZ];exact hA5,ho4.below hb5,HS2.out.1,HRW.out,by have:=HS2.out;omega,HS2.out.2,Nat.le_refl _,.inr (by omega),hb5.size,hR4.below hb5,hU4.trans (Upd.ofBelow R hb5),hG4.below hb5⟩
 rw [← hZ]
 have HD5:=Lib.hid hD5
 clear hw5 hb5 hA5 hZ hU4 hR4 hG4 hS4 ho4
 go_wp2_with fail
 refine (pick_pos R _ 9 _ HD5.out.rd (by omega) (by omega) (by omega)).mono ?_;rintro e w6 ⟨x6,rfl,h60,h61,hr6,hu6⟩
 have HD6:=Lib.hid (HD5.out.go hu6 hr6)
 clear HD5 hr6 hu6 hD5
 go_wp2_with fail
 go_loopw [6] (fun i wr=>∃ x:Nat,i = .int .i64 (x:Int)∧x≤8∧∃ b1 m1 d1 b2 m2 d2 b3 m3 d3 t ts B T,treB t=true∧TrD w wr R (P+61+(8 - x)*400) Z w.heap.size B T tTre (.slice b1 m1 d1) (.slice b2 m2 d2) (.slice b3 m3 d3) t ts) (fun i _=>(intOf i).toNat)
 case atStart =>
  obtain ⟨y,rfl⟩:=Int.eq_ofNat_of_zero_le h60
  exact ⟨y,rfl,by omega,_,_,_,_,_,_,_,_,_,_,_,_,_,HTV.out,HD6.out.more (by omega)⟩
 case round =>
  clear HD6 HTV
  obtain ⟨x,rfl,hx7,b1,m1,d1,b2,n2,d2,b3,m3,d3,t,ts,B,T,hok,hD⟩:=hrel
  have HOK:=Lib.hid hok
  have htk:=(treB_iff t).1 hok
  have HSM:=Lib.hid htk.sm
  by_cases hx0:0 < x
  · obtain ⟨P5,hP5⟩:∃ p,p=P+61+(8 - x)*400:=⟨_,rfl⟩
    rw [← hP5] at hD
    have hPb:P5≤P+61+3200:=by omega
    have h1:=htk.one
    have h14:=htk.most
    obtain ⟨g,c2,e2⟩:=hD.own.form2 h1
    simp only [Value.slice.injEq] at e2
    obtain ⟨rfl,hn2,rfl⟩:=e2
    rw [← hn2] at h1 h14
    have HN2:=Lib.hid hn2
    have HTD:=Lib.hid hD
    have hr0:=hD.rd
    obtain ⟨z0,z1,z2,-,-,-⟩:=hD.box
    have hw1:IntKind.i64.wrap ((n2:Int) - 1)=(n2:Int) - 1:=IntWalk.i64_in _ (by omega)
    have hgx:decide ((0:Int) < (x:Int))=true:=by simp;omega
    have hgx2:decide (0 < x)=true:=by simp;omega
    clear hok htk hn2 hD
    go_wp2_with fail
    refine (pick_pos R _ 5 _ hr0 (by omega) (by omega) (by omega)).mono ?_;rintro e w5 ⟨x5,rfl,h50,h51,hr5,hu5⟩
    have HD6:=Lib.hid (HTD.out.go hu5 hr5)
    clear hr0 z0 z1 z2 HTD hr5 hu5 hgx hgx2 hw1
    go_upto_if 23 with (fail)
    go_cut [7] (fun s7 wx=>∃ k:Nat,s7 = .int .i64 (k:Int)∧k < n2∧TrD w wx R (P5+2) Z w.heap.size B T tTre (.slice b1 m1 d1) (.slice (some ⟨g,0,none⟩) n2 d2) (.slice b3 m3 d3) t ts)
    case first =>
     by_cases hx5:x5=0
     · subst hx5
       obtain ⟨z0,z1,z2,-,-,-⟩:=HD6.out.box
       have hr6:=HD6.out.rd
       go_wp2_with fail
       refine (pick_pos R _ (n2:Int) _ hr6 (by omega) (by omega) (by omega)).mono ?_;rintro e w7 ⟨x7,rfl,h70,h71,hr7,hu7⟩
       obtain ⟨k,rfl⟩:=Int.eq_ofNat_of_zero_le h70
       have HD7:=Lib.hid (HD6.out.go hu7 hr7)
       clear z0 z1 z2 hr6 hr7 hu7 HD6
       go_wp2_with fail
       go_meet
       exact ⟨k,rfl,by omega,HD7.out.more (by omega)⟩
     · have e5:(x5 == 0)=false:=by simp [hx5]
       clear hx5
       go_wp2_with fail
       go_meet
       exact ⟨n2 - 1,by congr 1;omega,by omega,HD6.out.more (by omega)⟩
    case rest =>
     clear HD6
     obtain ⟨k,rfl,hkn,hD7⟩:=hcut
     obtain ⟨wB,hwB⟩:∃ W,W=wc:=⟨_,rfl⟩
     rw [← hwB] at hD7 ⊢
     clear hwB
     have HD7:=Lib.hid hD7
     have hrB:=hD7.rd
     obtain ⟨P8,hP8⟩:∃ p,p=P5+2:=⟨_,rfl⟩
     rw [← hP8] at hrB HD7
     have HBX:=Lib.hid (fun (W:World) (hu:Upd R wB W)=>HD7.out.box.upd hu (by have:=HD7.out.rg;have:=HD7.out.gz;omega))
     have hkl:k < t.blocks.length:=by rw [← HN2.out];exact hkn
     have hyb:=HSM.out.blk _ (blkAt_mem hkl)
     obtain ⟨vw,hvw⟩:∃ v,v=(blkAt t.blocks k).view:=⟨_,rfl⟩
     have hvb:0≤vw∧vw≤1000:=by rw [hvw];exact hyb.2.2.1
     have HBC:Hid (∀ W,Upd R wB W→W.cell? ⟨g,k*6+2,none⟩=some (.int .i64 vw)):=Lib.hid (fun W hu=>by
      rw [hvw];exact (HD7.out.own.upd hu HD7.out.rb).cells hkl (by omega:2 < 6))
     have HGC:=Lib.hid (fun (W:World) (hu:Upd R wB W) (vv:Int) (hvv:vw+1≤vv∧vv≤vw+2) (gg cc:Nat) (LL:List Acn) (hra:RowA W (some ⟨gg,0,none⟩) LL.length LL)=>(⟨_,_,growM_ok HOK.out (k:Int) vv LL,by have:=growM_len HOK.out (k:Int) vv LL;have:=HN2.out;omega,growTree_spec _ _ _ t (k:Int) vv (some ⟨gg,0,none⟩) LL.length cc LL W (HD7.out.own.upd hu HD7.out.rb).rd hra (fun h=>by cases h) (WalkArith.wf_i64 (by omega))⟩:∃ (tg:Tre) (zg:Bool),treB tg=true∧n2≤tg.blocks.length∧Calls Tryz.prog 124 #[.agg #[.slice b1 m1 d1,.slice (some ⟨g,0,none⟩) n2 d2,.slice b3 m3 d3],.int .i64 (k:Int),.int .i64 vv,.slice (some ⟨gg,0,none⟩) LL.length cc] W (NewTreB W tTre tg zg)))
     have i1:(0:Int)≤(k:Int):=by omega
     have i2:(k:Int) < (n2:Int):=by omega
     have HTD:=HD7
     have HEND:Hid (∀ wz P' a1 m1 c1 a2 m2 c2 a3 m3 c3 t' ts' B' T',treB t'=true→P'≤P5+400→TrD w wz R P' Z w.heap.size B' T' tTre (.slice a1 m1 c1) (.slice a2 m2 c2) (.slice a3 m3 c3) t' ts'→∃ x':Nat,(.int .i64 ((x:Int) - 1):Value) = .int .i64 (x':Int)∧x'≤8∧∃ b1 m1 d1 b2 m2 d2 b3 m3 d3 t ts B T,treB t=true∧TrD w wz R (P+61+(8 - x')*400) Z w.heap.size B T tTre (.slice b1 m1 d1) (.slice b2 m2 d2) (.slice b3 m3 d3) t ts):=Lib.hid (fun wz P' a1 m1 c1 a2 m2 c2 a3 m3 c3 t' ts' B' T' h1 h2 h3=>⟨x - 1,by congr 1;omega,by omega,a1,m1,c1,a2,m2,c2,a3,m3,c3,t',ts',B',T',h1,h3.more (by
      have:8 - (x - 1)=8 - x+1:=by omega
      rw [this,Nat.add_mul];omega)⟩)
     have hwx:IntKind.i64.wrap ((x:Int) - 1)=(x:Int) - 1:=IntWalk.i64_in _ (by omega)
     clear HD7 hD7 hvw hyb
     go_upto_region 8 with (fail)
     refine wp_region_light (by kernel_rfl) (StoJ (fun lz fz wz=>WdJ R wB (P8) [(10,1),(14,13)] [(0,30,Wd.is R (.agg #[.slice b1 m1 d1,.slice (some ⟨g,0,none⟩) n2 d2,.slice b3 m3 d3])),(1,31,Wd.is R (.int .i64 (k:Int))),(2,32,Wd.is R (.pointer (some ⟨Z,1,none⟩))),(3,33,Wd.is R (.slice (some ⟨g,0,none⟩) n2 d2)),(4,34,Wd.is R (.int .i64 (k:Int))),(5,35,Wd.is R (.pointer (some ⟨g,k*6,none⟩))),(6,36,Wd.is R (.pointer (some ⟨g,k*6+2,none⟩))),(7,37,Wd.is R (.int .i64 vw)),(8,38,Wd.int R (vw+1) (vw+1)),(9,39,Wd.is R (.pointer (some ⟨R,0,none⟩))),(10,40,Wd.int R (0) (5)),(11,41,Wd.int R (0) (1)),(12,42,Wd.int R (vw+1) (vw+2)),(13,43,Wd.is R (.pointer (some ⟨R,0,none⟩))),(14,44,WdAct R),(15,45,WdActs R),(16,46,WdGrow R wB n2),(17,29,WdGrow R wB n2),(18,47,WdTree R wB n2),(19,48,Wd.bool R)] lz fz wz∧ClJ [(3,[2]),(5,[3,4]),(6,[5]),(7,[6]),(8,[7]),(10,[9]),(11,[10]),(12,[8,11]),(14,[13]),(15,[14]),(16,[0,1,12,15]),(17,[16]),(18,[17]),(19,[17])] lz) (fun lz fz wz=>(∀ i,i < 21→i≠19→lz i=true)∧(∃ a1 m1 c1 a2 m2 c2 a3 m3 c3 t' ts' B' T',(treB t'=true∧n2≤t'.blocks.length)∧TrD w wz R (P8+14) Z w.heap.size B' T' tTre (.slice a1 m1 c1) (.slice a2 m2 c2) (.slice a3 m3 c3) t' ts')∧∃ a x,fz 29 = .tuple #[a,.bool x]) 20) 63 rfl [30,31,32,33,34,35,36,37,38,39,40,41,42,43,44,45,46,29,47,48] (by kernel_rfl) (by kernel_rfl) (by kernel_rfl) (fun f=>StoJ.nothing ⟨WdJ.nothing _ _ f hrB,ClJ.nothing _⟩) ?_ ?_
     · intro i hi
       rcases (by have:i < 21:=hi;omega:i=0∨i=1∨i=2∨i=3∨i=4∨i=5∨i=6∨i=7∨i=8∨i=9∨i=10∨i=11∨i=12∨i=13∨i=14∨i=15∨i=16∨i=17∨i=18∨i=19∨i=20) with rfl | rfl | rfl | rfl | rfl | rfl | rfl | rfl | rfl | rfl | rfl | rfl | rfl | rfl | rfl | rfl | rfl | rfl | rfl | rfl | rfl
       all_goals (clear hi;intro o ho lz fz w' A hJ0 hli ha hA K hK;obtain rfl:=Option.some.inj ho;clear ho)
       · have hM:=hJ0.ahead hli (fun hq=>hq.1 0 (by decide) (by decide))
         obtain ⟨hJ,hC⟩:=hJ0.1 hM
         have gg5:=so hA 5 _ rfl
         simp only [List.getD_cons_succ,List.getD_cons_zero] at gg5
         rw [if_pos (by rfl)]
         obtain ⟨z0,z1,z2,-,-,-⟩:=HBX.out w' hJ.upd
         have hF:=hK _ w' (StoJ.step 0 (by decide) hM ⟨hJ.stay 0 0 30 rfl rfl rfl rfl,hC.step 0 (by simp)⟩)
         clear hJ hJ0 ha hK hA hli hC hM;go_simp;exact hF
       · have hM:=hJ0.ahead hli (fun hq=>hq.1 1 (by decide) (by decide))
         obtain ⟨hJ,hC⟩:=hJ0.1 hM
         have gg7:=so hA 7 _ rfl
         simp only [List.getD_cons_succ,List.getD_cons_zero] at gg7
         rw [if_pos (by rfl)]
         have hF:=hK _ w' (StoJ.step 1 (by decide) hM ⟨hJ.stay 1 1 31 rfl rfl rfl rfl,hC.step 1 (by simp)⟩)
         clear hJ hJ0 ha hK hA hli hC hM;go_simp;exact hF
       · have hM:=hJ0.ahead hli (fun hq=>hq.1 2 (by decide) (by decide))
         obtain ⟨hJ,hC⟩:=hJ0.1 hM
         have gg5:=so hA 5 _ rfl
         simp only [List.getD_cons_succ,List.getD_cons_zero] at gg5
         rw [if_pos (by rfl)]
         have hF:=hK _ w' (StoJ.step 2 (by decide) hM ⟨hJ.stay 2 2 32 rfl rfl rfl rfl,hC.step 2 (by simp)⟩)
         clear hJ hJ0 ha hK hA hli hC hM;go_simp;exact hF
       · have hM:=hJ0.ahead hli (fun hq=>hq.1 3 (by decide) (by decide))
         obtain ⟨hJ,hC⟩:=hJ0.1 hM
         have gg32:=sj hA 32 (hJ.at 2 rfl (ha 2 (by decide)))
         rw [if_pos (by rfl)]
         obtain ⟨z0,z1,z2,-,-,-⟩:=HBX.out w' hJ.upd
         have hF:=hK _ w' (StoJ.step 3 (by decide) hM ⟨hJ.stay 3 3 33 rfl rfl rfl rfl,hC.step 3 (by simp [ha 2 (by decide)])⟩)
         clear hJ hJ0 ha hK hA hli hC hM;go_simp;exact hF
       · have hM:=hJ0.ahead hli (fun hq=>hq.1 4 (by decide) (by decide))
         obtain ⟨hJ,hC⟩:=hJ0.1 hM
         have gg7:=so hA 7 _ rfl
         simp only [List.getD_cons_succ,List.getD_cons_zero] at gg7
         rw [if_pos (by rfl)]
         have hF:=hK _ w' (StoJ.step 4 (by decide) hM ⟨hJ.stay 4 4 34 rfl rfl rfl rfl,hC.step 4 (by simp)⟩)
         clear hJ hJ0 ha hK hA hli hC hM;go_simp;exact hF
       · have hM:=hJ0.ahead hli (fun hq=>hq.1 5 (by decide) (by decide))
         obtain ⟨hJ,hC⟩:=hJ0.1 hM
         have gg33:=sj hA 33 (hJ.at 3 rfl (ha 3 (by decide)))
         have gg34:=sj hA 34 (hJ.at 4 rfl (ha 4 (by decide)))
         rw [if_pos (by rfl)]
         have hF:=hK _ w' (StoJ.step 5 (by decide) hM ⟨hJ.stay 5 5 35 rfl rfl rfl rfl,hC.step 5 (by simp [ha 3 (by decide),ha 4 (by decide)])⟩)
         clear hJ hJ0 ha hK hA hli hC hM;go_simp;exact hF
       · have hM:=hJ0.ahead hli (fun hq=>hq.1 6 (by decide) (by decide))
         obtain ⟨hJ,hC⟩:=hJ0.1 hM
         have gg35:=sj hA 35 (hJ.at 5 rfl (ha 5 (by decide)))
         rw [if_pos (by rfl)]
         have hF:=hK _ w' (StoJ.step 6 (by decide) hM ⟨hJ.stay 6 6 36 rfl rfl rfl rfl,hC.step 6 (by simp [ha 5 (by decide)])⟩)
         clear hJ hJ0 ha hK hA hli hC hM;go_simp;exact hF
       · have hM:=hJ0.ahead hli (fun hq=>hq.1 7 (by decide) (by decide))
         obtain ⟨hJ,hC⟩:=hJ0.1 hM
         have gg36:=sj hA 36 (hJ.at 6 rfl (ha 6 (by decide)))
         rw [if_pos (by rfl)]
         have k2:=HBC.out w' hJ.upd
         have hF:=hK _ w' (StoJ.step 7 (by decide) hM ⟨hJ.stay 7 7 37 rfl rfl rfl rfl,hC.step 7 (by simp [ha 6 (by decide)])⟩)
         clear hJ hJ0 ha hK hA hli hC hM;go_simp;exact hF
       · have hM:=hJ0.ahead hli (fun hq=>hq.1 8 (by decide) (by decide))
         obtain ⟨hJ,hC⟩:=hJ0.1 hM
         have hbd:=costOf_le [(10,1),(14,13)] lz
         simp only [List.map_cons,List.map_nil,List.sum_cons,List.sum_nil] at hbd
         have gg37:=sj hA 37 (hJ.at 7 rfl (ha 7 (by decide)))
         rw [if_pos (by rfl)]
         have ew38:IntKind.i64.wrap (vw+1)=vw+1:=IntWalk.i64_in _ (by omega)
         have hF:=hK (.int .i64 (vw+1)) w' (StoJ.step 8 (by decide) hM ⟨hJ.stay 8 8 38 rfl rfl rfl ⟨_,rfl,by omega,by omega⟩,hC.step 8 (by simp [ha 7 (by decide)])⟩)
         clear hJ hJ0 ha hK hA hli hbd hC hM;go_simp;exact hF
       · have hM:=hJ0.ahead hli (fun hq=>hq.1 9 (by decide) (by decide))
         obtain ⟨hJ,hC⟩:=hJ0.1 hM
         have gg0:=so hA 0 _ rfl
         simp only [List.getD_cons_succ,List.getD_cons_zero] at gg0
         rw [if_pos (by rfl)]
         have hF:=hK _ w' (StoJ.step 9 (by decide) hM ⟨hJ.stay 9 9 39 rfl rfl rfl rfl,hC.step 9 (by simp)⟩)
         clear hJ hJ0 ha hK hA hli hC hM;go_simp;exact hF
       · have hM:=hJ0.ahead hli (fun hq=>hq.1 10 (by decide) (by decide))
         obtain ⟨hJ,hC⟩:=hJ0.1 hM
         have hbd:=costOf_le [(10,1),(14,13)] lz
         simp only [List.map_cons,List.map_nil,List.sum_cons,List.sum_nil] at hbd
         have gg39:=sj hA 39 (hJ.at 9 rfl (ha 9 (by decide)))
         rw [if_pos (by rfl)]
         clear hA
         go_simp
         refine (pick_pos R _ 6 w' hJ.rd (by omega) (by omega) (by omega)).mono ?_
         rintro e9 w9 ⟨x9,rfl,h90,h91,hr9,hu9⟩
         exact hK _ w9 (StoJ.step 10 (by decide) hM ⟨hJ.step 10 10 40 (.int .i64 x9) rfl rfl rfl hu9 (hJ.asked 10 (by simp) hli hr9) ⟨x9,rfl,by omega,by omega⟩,hC.step 10 (by simp [ha 9 (by decide)])⟩)
       · have hM:=hJ0.ahead hli (fun hq=>hq.1 11 (by decide) (by decide))
         obtain ⟨hJ,hC⟩:=hJ0.1 hM
         have hbd:=costOf_le [(10,1),(14,13)] lz
         simp only [List.map_cons,List.map_nil,List.sum_cons,List.sum_nil] at hbd
         obtain ⟨x40,hx40,hl40,hu40⟩:=hJ.at 10 rfl (ha 10 (by decide))
         have gg40:=sj hA 40 hx40
         rw [if_pos (by rfl)]
         have ew41:IntKind.i64.wrap (Int.tdiv x40 5)=x40 / 5:=by rw [Int.tdiv_eq_ediv_of_nonneg (by omega)];exact IntWalk.i64_in _ (by omega)
         have hF:=hK (.int .i64 (x40 / 5)) w' (StoJ.step 11 (by decide) hM ⟨hJ.stay 11 11 41 rfl rfl rfl ⟨_,rfl,by omega,by omega⟩,hC.step 11 (by simp [ha 10 (by decide)])⟩)
         clear hJ hJ0 ha hK hA hli hbd hC hM;go_simp;exact hF
       · have hM:=hJ0.ahead hli (fun hq=>hq.1 12 (by decide) (by decide))
         obtain ⟨hJ,hC⟩:=hJ0.1 hM
         have hbd:=costOf_le [(10,1),(14,13)] lz
         simp only [List.map_cons,List.map_nil,List.sum_cons,List.sum_nil] at hbd
         obtain ⟨x38,hx38,hl38,hu38⟩:=hJ.at 8 rfl (ha 8 (by decide))
         have gg38:=sj hA 38 hx38
         obtain ⟨x41,hx41,hl41,hu41⟩:=hJ.at 11 rfl (ha 11 (by decide))
         have gg41:=sj hA 41 hx41
         rw [if_pos (by rfl)]
         have ew42:IntKind.i64.wrap (x38+x41)=x38+x41:=IntWalk.i64_in _ (by omega)
         have hF:=hK (.int .i64 (x38+x41)) w' (StoJ.step 12 (by decide) hM ⟨hJ.stay 12 12 42 rfl rfl rfl ⟨_,rfl,by omega,by omega⟩,hC.step 12 (by simp [ha 8 (by decide),ha 11 (by decide)])⟩)
         clear hJ hJ0 ha hK hA hli hbd hC hM;go_simp;exact hF
       · have hM:=hJ0.ahead hli (fun hq=>hq.1 13 (by decide) (by decide))
         obtain ⟨hJ,hC⟩:=hJ0.1 hM
         have gg0:=so hA 0 _ rfl
         simp only [List.getD_cons_succ,List.getD_cons_zero] at gg0
         rw [if_pos (by rfl)]
         have hF:=hK _ w' (StoJ.step 13 (by decide) hM ⟨hJ.stay 13 13 43 rfl rfl rfl rfl,hC.step 13 (by simp)⟩)
         clear hJ hJ0 ha hK hA hli hC hM;go_simp;exact hF
       · have hM:=hJ0.ahead hli (fun hq=>hq.1 14 (by decide) (by decide))
         obtain ⟨hJ,hC⟩:=hJ0.1 hM
         have hbd:=costOf_le [(10,1),(14,13)] lz
         simp only [List.map_cons,List.map_nil,List.sum_cons,List.sum_nil] at hbd
         have gg43:=sj hA 43 (hJ.at 13 rfl (ha 13 (by decide)))
         rw [if_pos (by rfl)]
         clear hA
         go_simp
         refine (l20Action_any R _ 0 w' hJ.rd (by omega) (by omega) (by omega)).mono ?_
         rintro e9 w9 ⟨p9,q9,r9,t9,rfl,hp9,hq9,hs9,ht9,hr9,hu9⟩
         exact hK _ w9 (StoJ.step 14 (by decide) hM ⟨hJ.step 14 14 44 (.agg #[.int .i64 p9,.int .i64 q9,.int .i64 r9,.int .i64 t9]) rfl rfl rfl hu9 (hJ.asked 14 (by simp) hli hr9) ⟨p9,q9,r9,t9,rfl,⟨WalkArith.wf_i64 (by simp only;omega),WalkArith.wf_i64 (by simp only;omega),WalkArith.wf_i64 (by simp only;omega),WalkArith.wf_i64 (by simp only;omega)⟩⟩,hC.step 14 (by simp [ha 13 (by decide)])⟩)
       · have hM:=hJ0.ahead hli (fun hq=>hq.1 15 (by decide) (by decide))
         obtain ⟨hJ,hC⟩:=hJ0.1 hM
         have hbd:=costOf_le [(10,1),(14,13)] lz
         simp only [List.map_cons,List.map_nil,List.sum_cons,List.sum_nil] at hbd
         obtain ⟨p44,q44,r44,t44,hx44,hw44⟩:=hJ.at 14 rfl (ha 14 (by decide))
         have gg44:=sj hA 44 hx44
         rw [if_pos (by rfl)]
         have hF:=hK (.slice (some ⟨w'.heap.size,0,none⟩) 1 1) (w'.alloc (.cells #[.int .i64 p44,.int .i64 q44,.int .i64 r44,.int .i64 t44] 113)) (StoJ.step 15 (by decide) hM ⟨hJ.step 15 15 45 (.slice (some ⟨w'.heap.size,0,none⟩) 1 1) rfl rfl rfl ((Upd.refl _ _).alloc _) (hJ.same 15 (hJ.rd.alloc _)) ⟨_,1,[⟨p44,q44,r44,t44⟩],rfl,hJ.rd.lt,rowA_lit hw44,by simp⟩,hC.step 15 (by simp [ha 14 (by decide)])⟩)
         clear hJ hJ0 ha hK hA hli hbd hC hM;go_simp;exact hF
       · have hM:=hJ0.ahead hli (fun hq=>hq.1 16 (by decide) (by decide))
         obtain ⟨hJ,hC⟩:=hJ0.1 hM
         have hbd:=costOf_le [(10,1),(14,13)] lz
         simp only [List.map_cons,List.map_nil,List.sum_cons,List.sum_nil] at hbd
         have gg30:=sj hA 30 (hJ.at 0 rfl (ha 0 (by decide)))
         have gg31:=sj hA 31 (hJ.at 1 rfl (ha 1 (by decide)))
         obtain ⟨x42,hx42,hl42,hu42⟩:=hJ.at 12 rfl (ha 12 (by decide))
         have gg42:=sj hA 42 hx42
         obtain ⟨gb45,c45,L45,hx45,hg45,hr45,hl45⟩:=hJ.at 15 rfl (ha 15 (by decide))
         have gg45:=sj hA 45 hx45
         rw [if_pos (by rfl)]
         clear hA
         go_simp
         obtain ⟨tg,zg,hg1,hg2,hgt⟩:=HGC.out w' hJ.upd x42 ⟨hl42,hu42⟩ gb45 c45 L45 hr45
         refine hgt.mono ?_
         rintro e9 w9 ⟨u1,u2,u3,ts9,rfl,ho9,hb9⟩
         obtain ⟨a1,m1',c1,a2,m2',c2,a3,m3',c3,rfl,rfl,rfl⟩:=trRd_formD ho9.rd
         have hus:=hJ.upd.size
         exact hK _ w9 (StoJ.step 16 (by decide) hM ⟨hJ.step 16 16 46 (.tuple #[.agg #[.slice a1 m1' c1,.slice a2 m2' c2,.slice a3 m3' c3],.bool zg]) rfl rfl rfl (Upd.ofBelow R hb9) (hJ.same 16 (hJ.rd.below hb9)) ⟨_,_,_,_,_,_,_,_,_,zg,tg,ts9,_,_,rfl,⟨hg1,hg2⟩,ho9,hus,by have:=hJ.rd.lt;omega,Nat.le_refl _⟩,hC.step 16 (by simp [ha 0 (by decide),ha 1 (by decide),ha 12 (by decide),ha 15 (by decide)])⟩)
       · have hM:=hJ0.ahead hli (fun hq=>hq.1 17 (by decide) (by decide))
         obtain ⟨hJ,hC⟩:=hJ0.1 hM
         have hbd:=costOf_le [(10,1),(14,13)] lz
         simp only [List.map_cons,List.map_nil,List.sum_cons,List.sum_nil] at hbd
         obtain ⟨a146,m146,c146,a246,m246,c246,a346,m346,c346,z46,t46,ts46,B46,T46,hx46,hk46,ho46,hB46,hR46,hT46⟩:=hJ.at 16 rfl (ha 16 (by decide))
         have gg46:=sj hA 46 hx46
         rw [if_pos (by rfl)]
         have hF:=hK (.tuple #[.agg #[.slice a146 m146 c146,.slice a246 m246 c246,.slice a346 m346 c346],.bool z46]) w' (StoJ.step 17 (by decide) hM ⟨hJ.stay 17 17 29 rfl rfl rfl ⟨_,_,_,_,_,_,_,_,_,_,_,_,_,_,rfl,hk46,ho46,hB46,hR46,hT46⟩,hC.step 17 (by simp [ha 16 (by decide)])⟩)
         clear hJ hJ0 ha hK hA hli hbd hC hM;go_simp;exact hF
       · have hM:=hJ0.ahead hli (fun hq=>hq.1 18 (by decide) (by decide))
         obtain ⟨hJ,hC⟩:=hJ0.1 hM
         have hbd:=costOf_le [(10,1),(14,13)] lz
         simp only [List.map_cons,List.map_nil,List.sum_cons,List.sum_nil] at hbd
         obtain ⟨a129,m129,c129,a229,m229,c229,a329,m329,c329,z29,t29,ts29,B29,T29,hx29,hk29,ho29,hB29,hR29,hT29⟩:=hJ.at 17 rfl (ha 17 (by decide))
         have gg29:=sj hA 29 hx29
         rw [if_pos (by rfl)]
         have hF:=hK (.agg #[.slice a129 m129 c129,.slice a229 m229 c229,.slice a329 m329 c329]) w' (StoJ.step 18 (by decide) hM ⟨hJ.stay 18 18 47 rfl rfl rfl ⟨_,_,_,_,_,_,_,_,_,_,_,_,_,rfl,hk29,ho29,hB29,hR29,hT29⟩,hC.step 18 (by simp [ha 17 (by decide)])⟩)
         clear hJ hJ0 ha hK hA hli hbd hC hM;go_simp;exact hF
       · by_cases h9:lz 20=true
         · have hq:=hJ0.2 h9
           obtain ⟨hq1,hq2,a29,z29,hx29⟩:=hq
           have gg29:=sj hA 29 hx29
           rw [if_pos (by rfl)]
           have hF:=hK (.bool z29) w' (StoJ.behind 19 h9 ⟨fun i h1 h2=>by simp [hq1 i h1 h2],hq2,a29,z29,by show (if some 48=some 29 then _ else fz 29) = _;rw [if_neg (by decide)];exact hx29⟩)
           clear hJ0 ha hK hA hli hq1 hq2;go_simp;exact hF
         · have h9':lz 20=false:=by simpa using h9
           obtain ⟨hJ,hC⟩:=hJ0.1 h9'
           obtain ⟨a129,m129,c129,a229,m229,c229,a329,m329,c329,z29,t29,ts29,B29,T29,hx29,-⟩:=hJ.at 17 rfl (ha 17 (by decide))
           have gg29:=sj hA 29 hx29
           rw [if_pos (by rfl)]
           have hF:=hK (.bool z29) w' (StoJ.step 19 (by decide) h9' ⟨hJ.stay 19 19 48 rfl rfl rfl ⟨_,rfl⟩,hC.step 19 (by simp [ha 17 (by decide)])⟩)
           clear hJ0 hJ hC ha hK hA hli;go_simp;exact hF
       · obtain ⟨hJ,hC⟩:=hJ0.1 hli
         have hbd:=costOf_le [(10,1),(14,13)] lz
         simp only [List.map_cons,List.map_nil,List.sum_cons,List.sum_nil] at hbd
         have gg5:=so hA 5 _ rfl
         simp only [List.getD_cons_succ,List.getD_cons_zero] at gg5
         obtain ⟨a147,m147,c147,a247,m247,c247,a347,m347,c347,t47,ts47,B47,T47,hx47,hk47,ho47,hB47,hR47,hT47⟩:=hJ.at 18 rfl (ha 18 (by decide))
         have gg47:=sj hA 47 hx47
         rw [if_pos (by rfl)]
         have l18:lz 18=true:=ha 18 (by decide)
         have l17:lz 17=true:=hC (18,[17]) (by simp) l18 17 (by simp)
         have l16:lz 16=true:=hC (17,[16]) (by simp) l17 16 (by simp)
         have l0:lz 0=true:=hC (16,[0,1,12,15]) (by simp) l16 0 (by simp)
         have l1:lz 1=true:=hC (16,[0,1,12,15]) (by simp) l16 1 (by simp)
         have l12:lz 12=true:=hC (16,[0,1,12,15]) (by simp) l16 12 (by simp)
         have l8:lz 8=true:=hC (12,[8,11]) (by simp) l12 8 (by simp)
         have l7:lz 7=true:=hC (8,[7]) (by simp) l8 7 (by simp)
         have l6:lz 6=true:=hC (7,[6]) (by simp) l7 6 (by simp)
         have l5:lz 5=true:=hC (6,[5]) (by simp) l6 5 (by simp)
         have l3:lz 3=true:=hC (5,[3,4]) (by simp) l5 3 (by simp)
         have l2:lz 2=true:=hC (3,[2]) (by simp) l3 2 (by simp)
         have l4:lz 4=true:=hC (5,[3,4]) (by simp) l5 4 (by simp)
         have l11:lz 11=true:=hC (12,[8,11]) (by simp) l12 11 (by simp)
         have l10:lz 10=true:=hC (11,[10]) (by simp) l11 10 (by simp)
         have l9:lz 9=true:=hC (10,[9]) (by simp) l10 9 (by simp)
         have l15:lz 15=true:=hC (16,[0,1,12,15]) (by simp) l16 15 (by simp)
         have l14:lz 14=true:=hC (15,[14]) (by simp) l15 14 (by simp)
         have l13:lz 13=true:=hC (14,[13]) (by simp) l14 13 (by simp)
         have hall:∀ i,i < 21→i≠19→(i == 20 || lz i)=true:=fun i hi h19a=>by
          rcases (by omega:i=0∨i=1∨i=2∨i=3∨i=4∨i=5∨i=6∨i=7∨i=8∨i=9∨i=10∨i=11∨i=12∨i=13∨i=14∨i=15∨i=16∨i=17∨i=18∨i=20) with rfl | rfl | rfl | rfl | rfl | rfl | rfl | rfl | rfl | rfl | rfl | rfl | rfl | rfl | rfl | rfl | rfl | rfl | rfl | rfl <;> simp [*]
         obtain ⟨a129,m129,c129,a229,m229,c229,a329,m329,c329,z29,t29,ts29,B29,T29,hx29,-⟩:=hJ.at 17 rfl l17
         have hput:=HTD.out.put hJ.upd (hJ.rd.mono (show _≤P8+14 by omega)) ho47 hB47 hT47
         obtain ⟨z0,z1,z2,f0,f1,f2⟩:=HBX.out w' hJ.upd
         have hF:=hK undef _ (StoJ.at ⟨hall,⟨_,_,_,_,_,_,_,_,_,_,_,_,_,hk47,hput⟩,_,_,by simpa using hx29⟩)
         clear hJ hJ0 ha hK hA hli hbd hC hput hall
         unfold set3b at hF;go_simp;exact hF
     intro lz fz w5 hall hJ
     obtain ⟨-,⟨p1,r1,s1,p2,r2,s2,p3,r3,s3,t2,ts2,B2,T2,⟨hok2,hln2⟩,hD2⟩,-⟩:=hJ.2 (hall 20 (by decide))
     clear hJ hall
     simp only [mixF,List.contains_cons,List.contains_nil]
     go_simp
     have HE:=Lib.hid (HEND.out _ _ _ _ _ _ _ _ _ _ _ _ _ _ _ hok2 (by omega) hD2)
     clear HTD HBX HGC HBC hrB hok2 hln2 hD2 HEND
     go_wp2_with fail
     go_roundw
     case rel=>exact HE.out
     case measure=>simp [intOf];omega
  · obtain rfl:x=0:=by omega
    have HD:=Lib.hid hD
    obtain ⟨z0,z1,z2,-,-,-⟩:=hD.box
    have hr0:=hD.rd
    have h1:=htk.one
    have h14:=htk.most
    have hlb:=htk.len
    obtain ⟨g3,c3,e3⟩:=hD.own.form3 (by omega)
    simp only [Value.slice.injEq] at e3
    obtain ⟨rfl,rfl,rfl⟩:=e3
    clear hok htk hD
    go_wp2_with fail
    refine (odd_any R _ n _ hr0 (by omega) (by omega) hn0).mono ?_;rintro e w6 ⟨x9,rfl,hr6,hu6⟩
    have HD3:=Lib.hid (HD.out.go hu6 hr6)
    clear hr6 hu6 hr0 z0 z1 z2 HD
    go_upto_if 51 with (fail)
    go_cut [5] (fun s5 wx=>s5 = .pointer (some ⟨Z,0,none⟩)∧TrX w wx R (P+4000) Z w.heap.size)
    case first =>
     cases x9 with
     | false =>
      go_wp2_with fail
      go_meet
      exact ⟨rfl,HD3.out.x HSM.out (by omega)⟩
     | true =>
      obtain ⟨z0,z1,z2,-,-,-⟩:=HD3.out.box
      obtain ⟨m,hm⟩:∃ m,m=t.bef.length:=⟨_,rfl⟩
      have hkb:m - 1 < t.bef.length:=by omega
      have hw1:IntKind.i64.wrap ((m:Int) - 1)=((m - 1:Nat):Int):=by
       rw [show (m:Int) - 1=((m - 1:Nat):Int) by omega];exact IntWalk.i64_in _ (by omega)
      have i1:(0:Int)≤((m - 1:Nat):Int):=by omega
      have i2:((m - 1:Nat):Int) < (m:Int):=by omega
      have HX:=Lib.hid ((HD3.out.setBef hkb (m:Int) (WalkArith.wf_i64 (by omega))).x (P':=P+4000) ⟨HSM.out.base,HSM.out.one,HSM.out.most,by simpa using HSM.out.bef,HSM.out.blk⟩ (by omega))
      have hfk:=World.ownsRow.frozenAt HD3.out.own.row3 (m - 1)
      obtain ⟨vk,hvk⟩:∃ y,w6.cell? ⟨g3,m - 1,none⟩=some y:=by
       have:=World.ownsRow.cellAt (n:=t.bef.length) HD3.out.own.row3 (m - 1) (by omega)
       rw [List.getElem?_eq_getElem (by simpa using hkb)] at this;exact ⟨_,this⟩
      rw [← hm] at z2
      obtain ⟨k,hk⟩:∃ k,k=m - 1:=⟨_,rfl⟩
      rw [← hk] at hw1 i1 i2 HX hfk hvk
      clear hk hkb hm HD3 hlb h14 h1
      go_wp2_with fail
      go_meet
      exact ⟨rfl,HX.out⟩
    case rest =>
     obtain ⟨rfl,hX⟩:=hcut
     obtain ⟨v1,v2,v3,t',⟨e1,e2,e3,e4,e5,e6,e7,e8,e9,rfl,rfl,rfl⟩,hZ,hk,hs,hr,hu,hg,hgz,hrg⟩:=hX
     have HFF:=Lib.hid (hg.set3b (.slice e1 e2 e3) (.slice e4 e5 e6) (.slice e7 e8 e9))
     have htt:=set3b_turn wc w.heap.size (.slice e1 e2 e3) (.slice e4 e5 e6) (.slice e7 e8 e9)
     have HFIN:Hid (DrawTr w R P 4000 (.returned (.agg #[.slice e1 e2 e3,.slice e4 e5 e6,.slice e7 e8 e9])) (set3b wc w.heap.size (.slice e1 e2 e3) (.slice e4 e5 e6) (.slice e7 e8 e9))):=Lib.hid ⟨_,_,_,t',rfl,fun W hW=>hk W (fun q h1 h2 h3 h4=>(hW q h1 (by rw [set3b_size];exact h2) h3).trans (htt.block q h2 (.inr (by omega)))),hs,set3b_rd hr hrg,set3b_upd hu (Nat.le_refl _)⟩
     obtain ⟨y0,y1,y2,-,-,-⟩:=hZ
     obtain ⟨x0,x1,x2,f0,f1,f2⟩:=hg
     unfold set3b at HFF HFIN
     clear hk hs hr hu hgz hrg htt
     go_wp2_with fail
     exact bodyPost_ret (results_tre Tryz.results116 _ (by rfl) HFF.out) rfl HFIN.out
theorem infoCrtD:(Tryz.prog.info? 29).map (fun i=>(i.zero,i.size,i.bytes))=some (some (.agg #[.int .i64 0,.int .i64 0,.int .i64 0]),3,24):=by kernel_rfl
def WdLc (R:Nat) (s v:Int):Wd R:=⟨fun u w=>∃ (p:Nat) (x:Int),u = .slice (some ⟨p,0,none⟩) 1 1∧R < p∧w.heap[p]? = some (.cells #[.int .i64 s,.int .i64 v,.int .i64 x] 29)∧0≤x∧x≤15,
 fun u w w' ⟨p,x,h1,h2,h3,h4,h5⟩ hu=>⟨p,x,h1,h2,by rw [hu.block p (by rcases Nat.lt_or_ge p w.heap.size with e | e;exact e;rw [Array.getElem?_eq_none e] at h3;cases h3) (fun e=>by simp at e;omega)];exact h3,h4,h5⟩⟩
def CsAt (w wr:World) (R P:Nat) (v:Value) (l:List Ver):Prop:=Own wr w.heap.size 29 3 v l.length (flatV l)∧WfVs l∧Rd wr R P∧Upd R w wr
theorem CsAt.next {w wr w':World} {R P P':Nat} {v:Value} {l:List Ver} (h:CsAt w wr R P v l) (hr:Rd w' R P') (hu:Upd R wr w') (hR:R < w.heap.size):CsAt w w' R P' v l :=
 ⟨h.1.upd hu hR,h.2.1,hr,h.2.2.2.trans hu⟩
theorem CsAt.appR {w W w':World} {R P:Nat} {v v':Value} {l:List Ver} (h:CsAt w W R P v l) (x:Ver) (hx:WfV x) (ho:w'.ownsRow w.heap.size 29 3 v' (l.length+1) (flatV l++celV x)) (hg:W.grownBy w' v.ownBlock) (hR:R < w.heap.size):CsAt w w' R P v' (l++[x]):=by
 obtain ⟨h1,h2,h3,h4⟩:=h
 refine ⟨⟨?_,fun e=>?_⟩,h2.snoc hx,h3.grown hg (fun k hk=>by have:=(h1.1.lt k hk).1;omega),Upd.ofGrown h4 hg h1⟩
 · rw [List.length_append,flatV_append]
   have e:flatV [x]=celV x:=by simp [flatV]
   rw [e];exact ho
 · rcases ho.2 with ⟨-,h0⟩ | ⟨g,cap,cur,h9,-⟩
   · omega
   · rw [e] at h9;cases h9
theorem CsAt.appL {w W w':World} {R P:Nat} {v v':Value} {l:List Ver} (h:CsAt w W R P v l) (o:Obj) (x:Ver) (hx:WfV x) (ho:Own w' w.heap.size 29 3 v' (l.length+1) (flatV l++celV x)) (hg:(W.alloc o).grownBy w' v.ownBlock) (hR:R < w.heap.size):CsAt w w' R P v' (l++[x]):=by
 obtain ⟨h1,h2,h3,h4⟩:=h
 exact CsAt.appR (W:=W.alloc o) ⟨h1.below ((Below.refl _ _).alloc (Nat.le_refl _) _),h2,h3.alloc _,h4.alloc _⟩ x hx ho.1 hg hR
theorem wfV_of {p q r:Int} (hp : -10≤p∧p≤2000000) (hq : -10≤q∧q≤2000000) (hr : -10≤r∧r≤2000000):WfV ⟨p,q,r⟩ :=
 ⟨WalkArith.wf_i64 (by simp only;omega),WalkArith.wf_i64 (by simp only;omega),WalkArith.wf_i64 (by simp only;omega)⟩
def DrawCs (w:World) (R P c:Nat) (en:Ending) (w':World):Prop :=
 ∃ v L,en = .returned v∧Own w' w.heap.size 29 3 v L.length (flatV L)∧WfVs L∧L.length≤31∧Rd w' R (P+c)∧Upd R w w'
set_option maxRecDepth 100000 in
set_option maxHeartbeats 16000000 in
theorem l20Certs_any (R P:Nat) (b1:Option Addr) (m1 d1:Nat) (b2:Option Addr) (m2 d2:Nat) (b3:Option Addr) (m3 d3:Nat) (t:Tre) (w:World) (h:Rd w R P) (hP:P≤300000) (htr:∀ W,Upd R w W→TreRd W (.slice b1 m1 d1) (.slice b2 m2 d2) (.slice b3 m3 d3) t) (hsm:TreSm t) :
  Calls Tryz.prog 117 #[.pointer (some ⟨R,0,none⟩),.agg #[.slice b1 m1 d1,.slice b2 m2 d2,.slice b3 m3 d3]] w (DrawCs w R P 100):=by
 have hm2:t.blocks.length=m2:=by
  obtain ⟨-,⟨a2,n2,c2,e2,r2,-,-⟩,-⟩:=htr w (Upd.refl _ _)
  simp only [Value.slice.injEq] at e2
  obtain ⟨rfl,rfl,rfl⟩:=e2
  exact r2.1
 have hm0:1≤m2:=by have:=hsm.one;omega
 have hm1:m2≤14:=by have:=hsm.most;omega
 obtain ⟨b,off,rfl⟩:∃ b off,b2=some ⟨b,off,none⟩:=by
  obtain ⟨-,⟨a2,n2,c2,e2,r2,-,-⟩,-⟩:=htr w (Upd.refl _ _)
  simp only [Value.slice.injEq] at e2
  obtain ⟨rfl,rfl,rfl⟩:=e2
  obtain ⟨b',off',e3,-⟩:=r2.at 0 (by omega)
  exact ⟨b',off',e3⟩
 have hRw:=h.lt
 have HRW:=Lib.hid hRw
 have HTR:=Lib.hid htr
 have HSM:=Lib.hid hsm
 have HM2:=Lib.hid hm2
 have hx0:=trAt_new w 27 (.slice b1 m1 d1) (.slice (some ⟨b,off,none⟩) m2 d2) (.slice b3 m3 d3)
 have hu0:=(Upd.refl R w).alloc (.cells #[.slice b1 m1 d1,.slice (some ⟨b,off,none⟩) m2 d2,.slice b3 m3 d3] 27)
 have hr0:=h.alloc (.cells #[.slice b1 m1 d1,.slice (some ⟨b,off,none⟩) m2 d2,.slice b3 m3 d3] 27)
 obtain ⟨W0,hW0⟩:∃ W0,W0=w.alloc (.cells #[.slice b1 m1 d1,.slice (some ⟨b,off,none⟩) m2 d2,.slice b3 m3 d3] 27):=⟨_,rfl⟩
 have hw0s:W0.heap.size=w.heap.size+1:=by rw [hW0];simp
 have HW0:=Lib.hid hW0
 rw [← hW0] at hx0 hu0 hr0
 have ho1:Own (W0.alloc (.cells #[] 29)) W0.heap.size 29 3 (.slice (some ⟨W0.heap.size,0,none⟩) 0 0) 0 []:=own_lit 29 3 #[] 0 (Nat.le_refl _) (by simp) rfl
 have hu1:=(Upd.refl R W0).alloc (.cells #[] 29)
 have hr1:=hr0.alloc (.cells #[] 29)
 obtain ⟨W1,hW1⟩:∃ W1,W1=W0.alloc (.cells #[] 29):=⟨_,rfl⟩
 have HW1:=Lib.hid hW1
 rw [← hW1] at ho1 hu1 hr1
 obtain ⟨X,hX⟩:∃ X,X=w.heap.size:=⟨_,rfl⟩
 have HX:=Lib.hid hX
 rw [← hX] at hx0
 have HX0:=Lib.hid hx0
 have HU0:=Lib.hid hu0
 have HRW0:Hid (R < W0.heap.size):=Lib.hid (by omega)
 have hRX:R < X:=by omega
 have HCS1:Hid (CsAt W0 W1 R P (.slice (some ⟨W0.heap.size,0,none⟩) 0 0) []):=Lib.hid ⟨ho1,fun x hx=>(by cases hx),hr1,hu1⟩
 clear h htr hsm hm2 hRw hx0 hu0 hr0 hW0 ho1 hu1 hr1 hW1 hX
 go_enter Tryz.func117,Tryz.ntmps117
 go_wp2_with fail
 rw [← HW0.out,← hw0s,← HW1.out]
 rw [← HX.out]
 have HS01:=Lib.hid hw0s
 clear HW0 HW1 hw0s
 go_loopw [5,6] (fun v i wr=>∃ (k:Nat) (L:List Ver),1≤k∧k≤m2∧i = .int .i64 (k:Int)∧CsAt W0 wr R (P+(k - 1)*2) v L∧L.length≤k - 1) (fun _ i _=>m2 - (intOf i).toNat)
 case atStart=>exact ⟨1,[],by omega,hm0,rfl,by simpa using HCS1.out,by simp⟩
 case round =>
  clear HCS1
  obtain ⟨k,L,hk1,hk,rfl,hcs,hL⟩:=hrel
  obtain ⟨ao,co,hve,-,-⟩:∃ (g c:Nat),_=Value.slice (some ⟨g,0,none⟩) L.length c∧True∧True:=(by obtain ⟨g,c,e,-⟩:=hcs.1.slice;exact ⟨g,c,e,trivial,trivial⟩)
  subst hve
  have HCS:=Lib.hid hcs
  have hxw:=HX0.out.upd hcs.2.2.2 (by omega)
  obtain ⟨P6',hP6'⟩:∃ p,p=P+(k - 1)*2:=⟨_,rfl⟩
  have hPb:P6'≤P+26:=by omega
  rw [← hP6'] at HCS
  by_cases hlt:k < m2
  · obtain ⟨z0,z1,z2,-⟩:=hxw
    have hr0:=HCS.out.2.2.1
    have HEND:Hid (∀ wz P' v' L',CsAt W0 wz R P' v' L'→P'≤P6'+2→L'.length≤k→∃ (k':Nat) (L:List Ver),1≤k'∧k'≤m2∧(.int .i64 ((k:Int)+1):Value) = .int .i64 (k':Int)∧CsAt W0 wz R (P+(k' - 1)*2) v' L∧L.length≤k' - 1):=Lib.hid (fun wz P' v' L' h1 h2 h3=>⟨k+1,L',by omega,by omega,by congr 1,⟨h1.1,h1.2.1,h1.2.2.1.mono (by omega),h1.2.2.2⟩,by omega⟩)
    clear hcs hP6'
    go_wp2_with fail
    refine (pick_pos R _ 6 _ hr0 (by omega) (by omega) (by omega)).mono ?_;rintro e w5 ⟨x5,rfl,h50,h51,hr5,hu5⟩
    have HCS5:=Lib.hid (HCS.out.next hr5 hu5 HRW0.out)
    clear hr0 z0 z1 z2 HCS hr5 hu5
    by_cases hx5:0 < x5
    case neg =>
     have e5:decide (0 < x5)=false:=decide_eq_false hx5
     have HE:=Lib.hid (HEND.out _ _ _ _ HCS5.out (by omega) (by omega))
     clear hx5 HEND
     go_wp2_with fail
     go_roundw
     case rel=>exact HE.out
     case measure=>simp [intOf];omega
    case pos =>
     have e5:decide (0 < x5)=true:=decide_eq_true hx5
     obtain ⟨wr,hwr⟩:∃ W,W=w5:=⟨_,rfl⟩
     rw [← hwr] at HCS5 ⊢
     obtain ⟨P6,hP6⟩:∃ p,p=P6'+1:=⟨_,rfl⟩
     rw [← hP6] at HCS5
     have hr0:=HCS5.out.2.2.1
     obtain ⟨ag,hag⟩:∃ ag:Option Addr,ag=some ⟨ao,0,none⟩:=⟨_,rfl⟩
     obtain ⟨no,hno⟩:∃ no,no=L.length:=⟨_,rfl⟩
     have HBX:=Lib.hid (fun (W:World) (hu:Upd R wr W)=>HX0.out.upd (HCS5.out.2.2.2.trans hu) (by omega))
     obtain ⟨a,n,c,hh⟩:=tre_hold HTR.out k hlt
     obtain ⟨y,hy⟩:∃ y,y=t.blocks.getD k noBlk:=⟨_,rfl⟩
     rw [← hy] at hh
     have HBK:=Lib.hid (fun (W:World) (hu:Upd R wr W)=>hh W (HU0.out.trans (HCS5.out.2.2.2.trans hu)))
     have hyb:=HSM.out.blk y (by rw [hy];exact getD_memBk _ _ (by rw [HM2.out];exact hlt))
     have HCS:=Lib.hid (fun (W:World) (hu:Upd R wr W) (hr:Rd W R (P6+1))=>HCS5.out.next hr hu HRW0.out)
     obtain ⟨s1,hs1⟩:∃ s,blkSumM y=s:=⟨_,rfl⟩
     have hsb:=blkSumM_bd y
     rw [hs1] at hsb
     have HS1:=Lib.hid hs1
     obtain ⟨s0,hs0⟩:∃ s,max 0 s1=s:=⟨_,rfl⟩
     obtain ⟨v0,hv0⟩:∃ v,max 0 y.view=v:=⟨_,rfl⟩
     have hs0b:0≤s0∧s0≤1000002:=by omega
     have hv0b:0≤v0∧v0≤1000:=by have:=hyb.2.2.1;omega
     have HS0:=Lib.hid hs0
     have HV0:=Lib.hid hv0
     have HL9:=Lib.hid hL
     have i1:(0:Int)≤(k:Int):=by omega
     have i2:(k:Int) < (m2:Int):=by omega
     clear hs1 hs0 hv0 hyb hh hy hx5 hwr
     go_upto_region 6 with (fail)
     clear e5
     refine wp_region_lightI (by kernel_rfl) (StoJ (fun lz fz wz=>WdJ R wr (P6) [(17,1)] [(0,18,Wd.is R (.slice (some ⟨ao,0,none⟩) L.length co)),(1,19,Wd.is R (.pointer (some ⟨X,1,none⟩))),(2,20,Wd.is R (.slice (some ⟨b,off,none⟩) m2 d2)),(3,21,Wd.is R (.int .i64 (k:Int))),(4,22,Wd.is R (.pointer (some ⟨b,off+k*6,none⟩))),(5,23,Wd.is R (.agg #[.int .i64 y.bef,.int .i64 y.hgt,.int .i64 y.view,.slice a n c,.int .i64 y.root,.int .i64 y.effs])),(6,24,Wd.is R (.int .i64 s1)),(7,25,Wd.is R (.int .i64 s0)),(8,26,Wd.is R (.pointer (some ⟨X,1,none⟩))),(9,27,Wd.is R (.slice (some ⟨b,off,none⟩) m2 d2)),(10,28,Wd.is R (.int .i64 (k:Int))),(11,29,Wd.is R (.pointer (some ⟨b,off+k*6,none⟩))),(12,30,Wd.is R (.pointer (some ⟨b,off+k*6+2,none⟩))),(13,31,Wd.is R (.int .i64 y.view)),(14,32,Wd.is R (.int .i64 v0)),(15,33,Wd.lit R 4 (3) (15)),(16,34,Wd.is R (.pointer (some ⟨R,0,none⟩))),(17,35,Wd.int R (0) (3)),(18,36,Wd.to R (3) (15)),(19,37,Wd.int R (3) (15)),(20,38,WdC R s0 v0),(21,39,WdLc R s0 v0)] lz fz wz∧ClJ [(2,[1]),(4,[2,3]),(5,[4]),(6,[5]),(7,[6]),(9,[8]),(11,[9,10]),(12,[11]),(13,[12]),(14,[13]),(17,[16]),(18,[15,17]),(19,[18]),(20,[7,14,19]),(21,[20])] lz∧fz 5 = .slice (some ⟨ao,0,none⟩) L.length co∧lz 23=false) (fun lz fz wz=>(∀ i,i < 23→lz i=true)∧(∃ v x,fz 40=v∧CsAt W0 wz R (P6+1) v (L++[x]))∧(lz 23=true→fz 5=fz 40)) 22) 53 rfl [18,19,20,21,22,23,24,25,26,27,28,29,30,31,32,33,34,35,36,37,38,39,40,5] (by kernel_rfl) (by kernel_rfl) (by kernel_rfl) (fun f hf=>StoJ.nothing ⟨WdJ.nothing _ _ f hr0,ClJ.nothing _,by rw [hf 5];rfl,rfl⟩) ?_ ?_
     · intro i hi
       rcases (by have:i < 24:=hi;omega:i=0∨i=1∨i=2∨i=3∨i=4∨i=5∨i=6∨i=7∨i=8∨i=9∨i=10∨i=11∨i=12∨i=13∨i=14∨i=15∨i=16∨i=17∨i=18∨i=19∨i=20∨i=21∨i=22∨i=23) with rfl | rfl | rfl | rfl | rfl | rfl | rfl | rfl | rfl | rfl | rfl | rfl | rfl | rfl | rfl | rfl | rfl | rfl | rfl | rfl | rfl | rfl | rfl | rfl
       all_goals (clear hi;intro o ho lz fz w' A hJ0 hli ha hA K hK;obtain rfl:=Option.some.inj ho;clear ho)
       · have hM:=hJ0.ahead hli (fun hq=>hq.1 0 (by decide))
         obtain ⟨hJ,hC,hO⟩:=hJ0.1 hM
         have gg5:=sj hA 5 hO.1
         rw [if_pos (by rfl)]
         have hF:=hK _ w' (StoJ.step 0 (by decide) hM ⟨hJ.stay 0 0 18 rfl rfl rfl rfl,hC.step 0 (by simp),by simpa using hO⟩)
         clear hJ hJ0 ha hK hA hli hC hM hO;go_simp;exact hF
       · have hM:=hJ0.ahead hli (fun hq=>hq.1 1 (by decide))
         obtain ⟨hJ,hC,hO⟩:=hJ0.1 hM
         have gg3:=so hA 3 _ rfl
         simp only [List.getD_cons_succ,List.getD_cons_zero] at gg3
         rw [if_pos (by rfl)]
         have hF:=hK _ w' (StoJ.step 1 (by decide) hM ⟨hJ.stay 1 1 19 rfl rfl rfl rfl,hC.step 1 (by simp),by simpa using hO⟩)
         clear hJ hJ0 ha hK hA hli hC hM hO;go_simp;exact hF
       · have hM:=hJ0.ahead hli (fun hq=>hq.1 2 (by decide))
         obtain ⟨hJ,hC,hO⟩:=hJ0.1 hM
         have gg19:=sj hA 19 (hJ.at 1 rfl (ha 1 (by decide)))
         rw [if_pos (by rfl)]
         obtain ⟨z0,z1,z2,-,-,-⟩:=HBX.out w' hJ.upd
         have hF:=hK _ w' (StoJ.step 2 (by decide) hM ⟨hJ.stay 2 2 20 rfl rfl rfl rfl,hC.step 2 (by simp [ha 1 (by decide)]),by simpa using hO⟩)
         clear hJ hJ0 ha hK hA hli hC hM hO;go_simp;exact hF
       · have hM:=hJ0.ahead hli (fun hq=>hq.1 3 (by decide))
         obtain ⟨hJ,hC,hO⟩:=hJ0.1 hM
         have gg6:=so hA 6 _ rfl
         simp only [List.getD_cons_succ,List.getD_cons_zero] at gg6
         rw [if_pos (by rfl)]
         have hF:=hK _ w' (StoJ.step 3 (by decide) hM ⟨hJ.stay 3 3 21 rfl rfl rfl rfl,hC.step 3 (by simp),by simpa using hO⟩)
         clear hJ hJ0 ha hK hA hli hC hM hO;go_simp;exact hF
       · have hM:=hJ0.ahead hli (fun hq=>hq.1 4 (by decide))
         obtain ⟨hJ,hC,hO⟩:=hJ0.1 hM
         have gg20:=sj hA 20 (hJ.at 2 rfl (ha 2 (by decide)))
         have gg21:=sj hA 21 (hJ.at 3 rfl (ha 3 (by decide)))
         rw [if_pos (by rfl)]
         have hF:=hK _ w' (StoJ.step 4 (by decide) hM ⟨hJ.stay 4 4 22 rfl rfl rfl rfl,hC.step 4 (by simp [ha 2 (by decide),ha 3 (by decide)]),by simpa using hO⟩)
         clear hJ hJ0 ha hK hA hli hC hM hO;go_simp;exact hF
       · have hM:=hJ0.ahead hli (fun hq=>hq.1 5 (by decide))
         obtain ⟨hJ,hC,hO⟩:=hJ0.1 hM
         have gg22:=sj hA 22 (hJ.at 4 rfl (ha 4 (by decide)))
         rw [if_pos (by rfl)]
         obtain ⟨⟨k0,k1,k2,k3,k4,k5⟩,-⟩:=HBK.out w' hJ.upd
         have hF:=hK _ w' (StoJ.step 5 (by decide) hM ⟨hJ.stay 5 5 23 rfl rfl rfl rfl,hC.step 5 (by simp [ha 4 (by decide)]),by simpa using hO⟩)
         clear hJ hJ0 ha hK hA hli hC hM hO;go_simp;exact hF
       · have hM:=hJ0.ahead hli (fun hq=>hq.1 6 (by decide))
         obtain ⟨hJ,hC,hO⟩:=hJ0.1 hM
         have hbd:=costOf_le [(17,1)] lz
         simp only [List.map_cons,List.map_nil,List.sum_cons,List.sum_nil] at hbd
         have gg23:=sj hA 23 (hJ.at 5 rfl (ha 5 (by decide)))
         rw [if_pos (by rfl)]
         clear hA
         go_simp
         refine (blockSum_specV y a n c w' (HBK.out w' hJ.upd).2).mono ?_
         rintro e9 w9 ⟨rfl,hb9⟩
         rw [HS1.out]
         exact hK _ w9 (StoJ.step 6 (by decide) hM ⟨hJ.step 6 6 24 (.int .i64 s1) rfl rfl rfl (Upd.ofBelow R hb9) (hJ.same 6 (hJ.rd.below hb9)) rfl,hC.step 6 (by simp [ha 5 (by decide)]),by simpa using hO⟩)
       · have hM:=hJ0.ahead hli (fun hq=>hq.1 7 (by decide))
         obtain ⟨hJ,hC,hO⟩:=hJ0.1 hM
         have gg24:=sj hA 24 (hJ.at 6 rfl (ha 6 (by decide)))
         rw [if_pos (by rfl)]
         have hmx:=HS0.out
         have hF:=hK _ w' (StoJ.step 7 (by decide) hM ⟨hJ.stay 7 7 25 rfl rfl rfl rfl,hC.step 7 (by simp [ha 6 (by decide)]),by simpa using hO⟩)
         clear hJ hJ0 ha hK hA hli hC hM hO;go_simp;exact hF
       · have hM:=hJ0.ahead hli (fun hq=>hq.1 8 (by decide))
         obtain ⟨hJ,hC,hO⟩:=hJ0.1 hM
         have gg3:=so hA 3 _ rfl
         simp only [List.getD_cons_succ,List.getD_cons_zero] at gg3
         rw [if_pos (by rfl)]
         have hF:=hK _ w' (StoJ.step 8 (by decide) hM ⟨hJ.stay 8 8 26 rfl rfl rfl rfl,hC.step 8 (by simp),by simpa using hO⟩)
         clear hJ hJ0 ha hK hA hli hC hM hO;go_simp;exact hF
       · have hM:=hJ0.ahead hli (fun hq=>hq.1 9 (by decide))
         obtain ⟨hJ,hC,hO⟩:=hJ0.1 hM
         have gg26:=sj hA 26 (hJ.at 8 rfl (ha 8 (by decide)))
         rw [if_pos (by rfl)]
         obtain ⟨z0,z1,z2,-,-,-⟩:=HBX.out w' hJ.upd
         have hF:=hK _ w' (StoJ.step 9 (by decide) hM ⟨hJ.stay 9 9 27 rfl rfl rfl rfl,hC.step 9 (by simp [ha 8 (by decide)]),by simpa using hO⟩)
         clear hJ hJ0 ha hK hA hli hC hM hO;go_simp;exact hF
       · have hM:=hJ0.ahead hli (fun hq=>hq.1 10 (by decide))
         obtain ⟨hJ,hC,hO⟩:=hJ0.1 hM
         have gg6:=so hA 6 _ rfl
         simp only [List.getD_cons_succ,List.getD_cons_zero] at gg6
         rw [if_pos (by rfl)]
         have hF:=hK _ w' (StoJ.step 10 (by decide) hM ⟨hJ.stay 10 10 28 rfl rfl rfl rfl,hC.step 10 (by simp),by simpa using hO⟩)
         clear hJ hJ0 ha hK hA hli hC hM hO;go_simp;exact hF
       · have hM:=hJ0.ahead hli (fun hq=>hq.1 11 (by decide))
         obtain ⟨hJ,hC,hO⟩:=hJ0.1 hM
         have gg27:=sj hA 27 (hJ.at 9 rfl (ha 9 (by decide)))
         have gg28:=sj hA 28 (hJ.at 10 rfl (ha 10 (by decide)))
         rw [if_pos (by rfl)]
         have hF:=hK _ w' (StoJ.step 11 (by decide) hM ⟨hJ.stay 11 11 29 rfl rfl rfl rfl,hC.step 11 (by simp [ha 9 (by decide),ha 10 (by decide)]),by simpa using hO⟩)
         clear hJ hJ0 ha hK hA hli hC hM hO;go_simp;exact hF
       · have hM:=hJ0.ahead hli (fun hq=>hq.1 12 (by decide))
         obtain ⟨hJ,hC,hO⟩:=hJ0.1 hM
         have gg29:=sj hA 29 (hJ.at 11 rfl (ha 11 (by decide)))
         rw [if_pos (by rfl)]
         have hF:=hK _ w' (StoJ.step 12 (by decide) hM ⟨hJ.stay 12 12 30 rfl rfl rfl rfl,hC.step 12 (by simp [ha 11 (by decide)]),by simpa using hO⟩)
         clear hJ hJ0 ha hK hA hli hC hM hO;go_simp;exact hF
       · have hM:=hJ0.ahead hli (fun hq=>hq.1 13 (by decide))
         obtain ⟨hJ,hC,hO⟩:=hJ0.1 hM
         have gg30:=sj hA 30 (hJ.at 12 rfl (ha 12 (by decide)))
         rw [if_pos (by rfl)]
         obtain ⟨⟨k0,k1,k2,k3,k4,k5⟩,-⟩:=HBK.out w' hJ.upd
         have hF:=hK _ w' (StoJ.step 13 (by decide) hM ⟨hJ.stay 13 13 31 rfl rfl rfl rfl,hC.step 13 (by simp [ha 12 (by decide)]),by simpa using hO⟩)
         clear hJ hJ0 ha hK hA hli hC hM hO;go_simp;exact hF
       · have hM:=hJ0.ahead hli (fun hq=>hq.1 14 (by decide))
         obtain ⟨hJ,hC,hO⟩:=hJ0.1 hM
         have gg31:=sj hA 31 (hJ.at 13 rfl (ha 13 (by decide)))
         rw [if_pos (by rfl)]
         have hmx:=HV0.out
         have hF:=hK _ w' (StoJ.step 14 (by decide) hM ⟨hJ.stay 14 14 32 rfl rfl rfl rfl,hC.step 14 (by simp [ha 13 (by decide)]),by simpa using hO⟩)
         clear hJ hJ0 ha hK hA hli hC hM hO;go_simp;exact hF
       · have hM:=hJ0.ahead hli (fun hq=>hq.1 15 (by decide))
         obtain ⟨hJ,hC,hO⟩:=hJ0.1 hM
         have hbd:=costOf_le [(17,1)] lz
         simp only [List.map_cons,List.map_nil,List.sum_cons,List.sum_nil] at hbd
         rw [if_pos (by rfl)]
         have hRw:=hJ.rd.lt
         have hlo:=wd_lit (w:=w') (R:=R) (n:=4) (T:=3) (lo:=3) (hi:=15) (cs:=[7,13,15,3]) hRw rfl (by intro z hz;simp only [List.mem_cons,List.not_mem_nil,or_false] at hz;omega)
         have hF:=hK (.slice (some ⟨w'.heap.size,0,none⟩) 4 4) (w'.alloc (.cells #[.int .i64 (7),.int .i64 (13),.int .i64 (15),.int .i64 (3)] 3)) (StoJ.step 15 (by decide) hM ⟨hJ.step 15 15 33 (.slice (some ⟨w'.heap.size,0,none⟩) 4 4) rfl rfl rfl ((Upd.refl _ _).alloc _) (hJ.same 15 (hJ.rd.alloc _)) hlo,hC.step 15 (by simp),by simpa using hO⟩)
         clear hJ hJ0 ha hK hA hli hbd hC hM hO
         go_simp
         exact hF
       · have hM:=hJ0.ahead hli (fun hq=>hq.1 16 (by decide))
         obtain ⟨hJ,hC,hO⟩:=hJ0.1 hM
         have gg0:=so hA 0 _ rfl
         simp only [List.getD_cons_succ,List.getD_cons_zero] at gg0
         rw [if_pos (by rfl)]
         have hF:=hK _ w' (StoJ.step 16 (by decide) hM ⟨hJ.stay 16 16 34 rfl rfl rfl rfl,hC.step 16 (by simp),by simpa using hO⟩)
         clear hJ hJ0 ha hK hA hli hC hM hO;go_simp;exact hF
       · have hM:=hJ0.ahead hli (fun hq=>hq.1 17 (by decide))
         obtain ⟨hJ,hC,hO⟩:=hJ0.1 hM
         have hbd:=costOf_le [(17,1)] lz
         simp only [List.map_cons,List.map_nil,List.sum_cons,List.sum_nil] at hbd
         have gg34:=sj hA 34 (hJ.at 16 rfl (ha 16 (by decide)))
         rw [if_pos (by rfl)]
         clear hA
         go_simp
         refine (pick_pos R _ 4 w' hJ.rd (by omega) (by omega) (by omega)).mono ?_
         rintro e9 w9 ⟨x9,rfl,h90,h91,hr9,hu9⟩
         exact hK _ w9 (StoJ.step 17 (by decide) hM ⟨hJ.step 17 17 35 (.int .i64 x9) rfl rfl rfl hu9 (hJ.asked 17 (by simp) hli hr9) ⟨x9,rfl,by omega,by omega⟩,hC.step 17 (by simp [ha 16 (by decide)]),by simpa using hO⟩)
       · have hM:=hJ0.ahead hli (fun hq=>hq.1 18 (by decide))
         obtain ⟨hJ,hC,hO⟩:=hJ0.1 hM
         have hbd:=costOf_le [(17,1)] lz
         simp only [List.map_cons,List.map_nil,List.sum_cons,List.sum_nil] at hbd
         obtain ⟨q33,hx33,hg33,hc33⟩:=hJ.at 15 rfl (ha 15 (by decide))
         have gg33:=sj hA 33 hx33
         obtain ⟨x35,hx35,hl35,hu35⟩:=hJ.at 17 rfl (ha 17 (by decide))
         have gg35:=sj hA 35 hx35
         rw [if_pos (by rfl)]
         obtain ⟨y,hy,hy0,hy1⟩:=hc33 x35.toNat (by omega)
         have hx2:x35 < 4:=by omega
         have hF:=hK (.pointer (some ⟨q33,x35.toNat,none⟩)) w' (StoJ.step 18 (by decide) hM ⟨hJ.stay 18 18 36 rfl rfl rfl ⟨_,_,rfl,hg33,y,hy,hy0,hy1⟩,hC.step 18 (by simp [ha 15 (by decide),ha 17 (by decide)]),by simpa using hO⟩)
         clear hJ hJ0 ha hK hA hli hbd hC hM hO;go_simp;exact hF
       · have hM:=hJ0.ahead hli (fun hq=>hq.1 19 (by decide))
         obtain ⟨hJ,hC,hO⟩:=hJ0.1 hM
         have hbd:=costOf_le [(17,1)] lz
         simp only [List.map_cons,List.map_nil,List.sum_cons,List.sum_nil] at hbd
         obtain ⟨q36,i36,hx36,hg36,y36,hy36,hl36,hu36⟩:=hJ.at 18 rfl (ha 18 (by decide))
         have gg36:=sj hA 36 hx36
         rw [if_pos (by rfl)]
         have hF:=hK (.int .i64 y36) w' (StoJ.step 19 (by decide) hM ⟨hJ.stay 19 19 37 rfl rfl rfl ⟨_,rfl,hl36,hu36⟩,hC.step 19 (by simp [ha 18 (by decide)]),by simpa using hO⟩)
         clear hJ hJ0 ha hK hA hli hbd hC hM hO;go_simp;exact hF
       · have hM:=hJ0.ahead hli (fun hq=>hq.1 20 (by decide))
         obtain ⟨hJ,hC,hO⟩:=hJ0.1 hM
         have hbd:=costOf_le [(17,1)] lz
         simp only [List.map_cons,List.map_nil,List.sum_cons,List.sum_nil] at hbd
         have gg25:=sj hA 25 (hJ.at 7 rfl (ha 7 (by decide)))
         have gg32:=sj hA 32 (hJ.at 14 rfl (ha 14 (by decide)))
         obtain ⟨x37,hx37,hl37,hu37⟩:=hJ.at 19 rfl (ha 19 (by decide))
         have gg37:=sj hA 37 hx37
         rw [if_pos (by rfl)]
         have hF:=hK (.agg #[.int .i64 s0,.int .i64 v0,.int .i64 x37]) w' (StoJ.step 20 (by decide) hM ⟨hJ.stay 20 20 38 rfl rfl rfl ⟨x37,rfl,by omega,by omega⟩,hC.step 20 (by simp [ha 7 (by decide),ha 14 (by decide),ha 19 (by decide)]),by simpa using hO⟩)
         clear hJ hJ0 ha hK hA hli hbd hC hM hO;go_simp;exact hF
       · have hM:=hJ0.ahead hli (fun hq=>hq.1 21 (by decide))
         obtain ⟨hJ,hC,hO⟩:=hJ0.1 hM
         have hbd:=costOf_le [(17,1)] lz
         simp only [List.map_cons,List.map_nil,List.sum_cons,List.sum_nil] at hbd
         obtain ⟨x38,hx38,hl38,hu38⟩:=hJ.at 20 rfl (ha 20 (by decide))
         have gg38:=sj hA 38 hx38
         rw [if_pos (by rfl)]
         have hF:=hK (.slice (some ⟨w'.heap.size,0,none⟩) 1 1) (w'.alloc (.cells #[.int .i64 s0,.int .i64 v0,.int .i64 x38] 29)) (StoJ.step 21 (by decide) hM ⟨hJ.step 21 21 39 (.slice (some ⟨w'.heap.size,0,none⟩) 1 1) rfl rfl rfl ((Upd.refl _ _).alloc _) (hJ.same 21 (hJ.rd.alloc _)) ⟨w'.heap.size,x38,rfl,hJ.rd.lt,heap_alloc_new w' _,hl38,hu38⟩,hC.step 21 (by simp [ha 20 (by decide)]),by simpa using hO⟩)
         clear hJ hJ0 ha hK hA hli hbd hC hM hO;go_simp;exact hF
       · obtain ⟨hJ,hC,hO⟩:=hJ0.1 hli
         have hbd:=costOf_le [(17,1)] lz
         simp only [List.map_cons,List.map_nil,List.sum_cons,List.sum_nil] at hbd
         have g18:=si hA 18 (hJ.at 0 rfl (ha 0 (by decide)))
         obtain ⟨p39,x39,hx39,hg39,hp39,hl39,hu39⟩:=hJ.at 21 rfl (ha 21 (by decide))
         have g39:=si hA 39 hx39
         have gg18:=slot_get g18
         have gg39:=slot_get g39
         rw [if_pos (by rfl)]
         have l0:lz 0=true:=ha 0 (by decide)
         have l21:lz 21=true:=ha 21 (by decide)
         have l20:lz 20=true:=hC (21,[20]) (by simp) l21 20 (by simp)
         have l7:lz 7=true:=hC (20,[7,14,19]) (by simp) l20 7 (by simp)
         have l6:lz 6=true:=hC (7,[6]) (by simp) l7 6 (by simp)
         have l5:lz 5=true:=hC (6,[5]) (by simp) l6 5 (by simp)
         have l4:lz 4=true:=hC (5,[4]) (by simp) l5 4 (by simp)
         have l2:lz 2=true:=hC (4,[2,3]) (by simp) l4 2 (by simp)
         have l1:lz 1=true:=hC (2,[1]) (by simp) l2 1 (by simp)
         have l3:lz 3=true:=hC (4,[2,3]) (by simp) l4 3 (by simp)
         have l14:lz 14=true:=hC (20,[7,14,19]) (by simp) l20 14 (by simp)
         have l13:lz 13=true:=hC (14,[13]) (by simp) l14 13 (by simp)
         have l12:lz 12=true:=hC (13,[12]) (by simp) l13 12 (by simp)
         have l11:lz 11=true:=hC (12,[11]) (by simp) l12 11 (by simp)
         have l9:lz 9=true:=hC (11,[9,10]) (by simp) l11 9 (by simp)
         have l8:lz 8=true:=hC (9,[8]) (by simp) l9 8 (by simp)
         have l10:lz 10=true:=hC (11,[9,10]) (by simp) l11 10 (by simp)
         have l19:lz 19=true:=hC (20,[7,14,19]) (by simp) l20 19 (by simp)
         have l18:lz 18=true:=hC (19,[18]) (by simp) l19 18 (by simp)
         have l15:lz 15=true:=hC (18,[15,17]) (by simp) l18 15 (by simp)
         have l17:lz 17=true:=hC (18,[15,17]) (by simp) l18 17 (by simp)
         have l16:lz 16=true:=hC (17,[16]) (by simp) l17 16 (by simp)
         have hall:∀ i,i < 24→i≠23→(i == 22 || lz i)=true:=fun i hi h23a=>by
          rcases (by omega:i=0∨i=1∨i=2∨i=3∨i=4∨i=5∨i=6∨i=7∨i=8∨i=9∨i=10∨i=11∨i=12∨i=13∨i=14∨i=15∨i=16∨i=17∨i=18∨i=19∨i=20∨i=21∨i=22) with rfl | rfl | rfl | rfl | rfl | rfl | rfl | rfl | rfl | rfl | rfl | rfl | rfl | rfl | rfl | rfl | rfl | rfl | rfl | rfl | rfl | rfl | rfl <;> simp [*]
         have hcs:=HCS.out w' hJ.upd (hJ.rd.mono (show _≤P6+1 by omega))
         have hsz:=hcs.2.2.2.size
         refine wp_append_litR (.tmp 18) (.tmp 39) 70 rfl W0.heap.size w'.heap.size 29 (.agg #[.int .i64 0,.int .i64 0,.int .i64 0]) 3 24 Tryz.underlying70 infoCrtD rfl (by decide) (.slice (some ⟨ao,0,none⟩) L.length co) (by rw [slot_eval g18]) L.length (flatV L) [.int .i64 s0,.int .i64 v0,.int .i64 x39] [] (ownR_only (r:=⟨.slice (some ⟨ao,0,none⟩) L.length co,29,3,L.length,flatV L⟩) hcs.1.1) p39 29 (by rw [slot_eval g39]) hp39 rfl (by intro u hu;simp at hu;rcases hu with rfl | rfl | rfl <;> rfl) (by omega) (by decide) hsz (Nat.le_refl _) ?_
         intro v10 w10 ho10 hg10 hat10
         have hcs2:=hcs.appR ⟨s0,v0,x39⟩ (wfV_of (by omega) (by omega) (by omega)) ho10.head hg10 HRW0.out
         have hn23:=hO.2
         exact hK v10 w10 (StoJ.at ⟨fun i hi=>hall i (by omega) (by omega),⟨v10,_,by simp,hcs2⟩,fun h=>by simp [hn23] at h⟩)
       · have h9:lz 22=true:=ha 22 (by decide)
         obtain ⟨hq1,⟨v40,x40,hx40,hcs⟩,-⟩:=hJ0.2 h9
         have gg40:=sj hA 40 hx40
         rw [if_pos (by rfl)]
         have hF:=hK v40 w' (StoJ.behind 23 h9 ⟨fun i h1=>by simp [hq1 i h1],⟨v40,x40,by simpa using hx40,hcs⟩,fun _=>by simp [hx40]⟩)
         clear hJ0 ha hK hA hli hq1 hcs;go_simp;exact hF
     intro lz fz w5 hall hJ
     obtain ⟨-,⟨v40,x40,hx40,hcs⟩,hx5⟩:=hJ.2 (hall 22 (by decide))
     have h5:=hx5 (hall 23 (by decide))
     rw [hx40] at h5
     have hsz:=hcs.1.slice
     have HE:=Lib.hid (HEND.out _ _ _ _ hcs (by omega) (by have:=HL9.out;simp;omega))
     clear hJ hall HEND hcs hx5 HCS HBK HBX
     simp only [mixF,List.contains_cons,List.contains_nil]
     go_simp
     go_wp2_with fail
     go_roundw
     case rel=>exact HE.out
     case measure=>simp [intOf];omega
  · obtain ⟨z0,z1,z2,-⟩:=hxw
    have hr0:=HCS.out.2.2.1
    clear hcs hP6'
    go_wp2_with fail
    refine (odd_any R _ 9 _ hr0 (by omega) (by omega) (by omega)).mono ?_;rintro e w6 ⟨x9,rfl,hr6,hu6⟩
    have HCS6:=Lib.hid (HCS.out.next hr6 hu6 HRW0.out)
    clear hr0 z0 z1 z2 HCS hr6 hu6
    go_upto_if 42 with (fail)
    go_cut [5] (fun v wx=>∃ L',CsAt W0 wx R (P6'+20) v L'∧L'.length≤14)
    case first =>
     cases x9 with
     | false =>
      go_wp2_with fail
      go_meet
      exact ⟨L,⟨HCS6.out.1,HCS6.out.2.1,HCS6.out.2.2.1.mono (by omega),HCS6.out.2.2.2⟩,by omega⟩
     | true =>
      have hr6:=HCS6.out.2.2.1
      have hxw:=HX0.out.upd HCS6.out.2.2.2 (by omega)
      obtain ⟨z0,z1,z2,-⟩:=hxw
      go_wp2_with fail
      refine (l20Cert_any R _ 2 b1 m1 d1 (some ⟨b,off,none⟩) m2 d2 b3 m3 d3 t w6 hr6 (by omega) (by omega) (by omega) (fun W hu=>HTR.out W (HU0.out.trans (HCS6.out.2.2.2.trans hu))) hm0 hm1).mono ?_;rintro e w7 ⟨s7,v7,g7,rfl,hs7,hv7,hg7,hr7,hu7⟩
      have HCS7:=Lib.hid (HCS6.out.next hr7 hu7 HRW0.out)
      have hsz7:W0.heap.size≤w7.heap.size:=HCS7.out.2.2.2.size
      clear hr6 z0 z1 z2 HCS6 hr7 hu7
      go_wp2_with (at_builtin;refine wpList_append_one rfl _ _ 70 rfl W0.heap.size 29 _ (.agg #[.int .i64 0,.int .i64 0,.int .i64 0]) 3 24 Tryz.underlying70 infoCrtD rfl (by decide) _ _ _ [.int .i64 s7,.int .i64 v7,.int .i64 g7] (by rfl) HCS7.out.1 (by rfl) rfl ?c1 ?c2 (by decide) ?c3 ?_)
      case c1=>intro u hu;simp at hu;rcases hu with rfl | rfl | rfl <;> rfl
      case c2=>omega
      case c3=>exact hsz7
      intro v8 w8 ho8 hg8
      have HCS8:=Lib.hid (HCS7.out.appL _ ⟨s7,v7,g7⟩ (wfV_of (by omega) (by omega) (by omega)) ho8 hg8 HRW0.out)
      clear ho8 hg8
      go_wp2_with fail
      go_meet
      exact ⟨L++[⟨s7,v7,g7⟩],⟨HCS8.out.1,HCS8.out.2.1,HCS8.out.2.2.1.mono (by omega),HCS8.out.2.2.2⟩,by simp;omega⟩
    case rest =>
     clear HCS6
     obtain ⟨L',hcs,hL'⟩:=hcut
     have HCS:=Lib.hid hcs
     have hr6:=hcs.2.2.1
     clear hcs
     go_wp2_with fail
     refine (odd_any R _ 24 _ hr6 (by omega) (by omega) (by omega)).mono ?_;rintro e w9 ⟨xa,rfl,hr9,hu9⟩
     have HCS9:=Lib.hid (HCS.out.next hr9 hu9 HRW0.out)
     clear hr6 HCS hr9 hu9
     cases xa with
     | false =>
      have HF:Hid (DrawCs w R P 100 (.returned _) w9):=Lib.hid ⟨_,L',rfl,⟨owns_mono HCS9.out.1.1 (by have:=HS01.out;omega),HCS9.out.1.2⟩,HCS9.out.2.1,by omega,HCS9.out.2.2.1.mono (by omega),HU0.out.trans HCS9.out.2.2.2⟩
      clear HCS9
      go_wp2_with fail
      go_ret
      exact HF.out
     | true =>
      obtain ⟨i0,hi,hz0,hz1,hz2⟩:=info_parts infoCrtD
      go_wp2_with (first | (at_make;refine wpList_make_full _ rfl (.const (.int .i64 31)) (.const (.int .i64 31)) 70 rfl w9.heap.size 29 i0 (.agg #[.int .i64 0,.int .i64 0,.int .i64 0]) 3 Tryz.underlying70 hi hz0 hz1 .i64 .i64 31 31 31 rfl rfl rfl rfl (by rw [hz2];omega) (by unfold maxLen;omega) (Nat.le_refl _) ?_;intro w10 hown hgrow;clear hi hz0 hz1 hz2))
      rw [made_zerosV,← flatV_zeros] at hown
      have hsz9:w.heap.size≤w9.heap.size:=by have:=HCS9.out.2.2.2.size;have:=HS01.out;omega
      have HF:Hid (DrawCs w R P 100 (.returned (.slice (some ⟨w9.heap.size,0,none⟩) 31 31)) w10):=Lib.hid ⟨_,List.replicate 31 noV,rfl,⟨by rw [List.length_replicate];exact owns_mono hown hsz9,by simp⟩,fun x hx=>(by rw [List.eq_of_mem_replicate hx];exact wfV_of (by omega) (by omega) (by omega)),by simp,(HCS9.out.2.2.1.grown hgrow (fun k hk=>by simp at hk)).mono (by omega),(HU0.out.trans HCS9.out.2.2.2).trans (Upd.ofBelow R ((Below.refl _ _).grown hgrow (Nat.le_refl _) (fun k hk=>by simp at hk)))⟩
      clear HCS9 hown hgrow
      go_wp2_with fail
      go_ret
      exact HF.out
theorem results_treS {fn:Func} {p q:Tmp} (h:fn.results=#[.cell p 27,.tmp q]) (tmps:Array Value) {F:World} {Z:Nat} (hp:tmps.getD p undef = .pointer (some ⟨Z,0,none⟩)) {x:Value} (hq:tmps.getD q undef=x) {v1 v2 v3:Value} (hc:TrAt F Z v1 v2 v3):(results fn tmps).run Tryz.prog F = .ok (.tuple #[.agg #[v1,v2,v3],x]) F:=by
 have hp':tmps[p]?.getD undef = .pointer (some ⟨Z,0,none⟩):=by simpa using hp
 have hq':tmps[q]?.getD undef=x:=by simpa using hq
 obtain ⟨c0,c1,c2,-⟩:=hc
 simp [results,h,hp',hq',asAddr,go_sem,c0,c1,c2]
def CsOk (w0 wa:World) (x:Value) (L:List Ver):Prop:=Own wa w0.heap.size 29 3 x L.length (flatV L)∧WfVs L∧L.length≤31
def DrawnTS (w:World) (en:Ending) (w':World):Prop :=
 ∃ b1 m1 d1 b2 m2 d2 b3 m3 d3 t g nx cx L,en = .returned (.tuple #[.agg #[.slice b1 m1 d1,.slice b2 m2 d2,.slice b3 m3 d3],.slice (some ⟨g,0,none⟩) nx cx])∧(∀ W:World,(∀ k,w.heap.size < k→k < w'.heap.size→W.heap[k]? = w'.heap[k]?)→TreRd W (.slice b1 m1 d1) (.slice b2 m2 d2) (.slice b3 m3 d3) t∧RowV W (some ⟨g,0,none⟩) nx L)∧TreSm t∧nx≤cx∧nx≤31∧Below w.heap.size w w'
structure CsSt (R P Z:Nat) (w0:World) (v1 v2 v3:Value) (l:Nat→Bool) (f:Nat→Value) (w:World):Prop where
 d3:l 3=true→l 2=true
 d4:l 4=true→l 0=true∧l 3=true
 a0:l 3=false→Upd R w0 w∧Rd w R P
 a1:l 3=true→∃ wa x L,f 13=x∧CsOk w0 wa x L∧Upd R w0 wa∧(l 4=false→w=wa)∧(l 4=true→w=set3b wa Z v1 v2 v3)
 a5:l 5=true→l 3=true∧f 3=f 13
theorem CsSt.nothing {R P Z:Nat} {w0:World} {v1 v2 v3:Value} (f:Nat→Value) (h:Rd w0 R P):CsSt R P Z w0 v1 v2 v3 (fun _=>false) f w0.drew :=
 ⟨(fun h=>nomatch h),(fun h=>nomatch h),(fun _=>⟨(Upd.refl _ _).drew,h.drew⟩),(fun h=>nomatch h),(fun h=>nomatch h)⟩
theorem CsSt.upd {R P Z:Nat} {w0 w:World} {v1 v2 v3:Value} {l:Nat→Bool} {f:Nat→Value} (h:CsSt R P Z w0 v1 v2 v3 l f w) (h4:l 4=false):Upd R w0 w:=by
 cases e:l 3 with
 | false=>exact (h.a0 e).1
 | true=>obtain ⟨wa,x,L,-,-,hu,h0,-⟩:=h.a1 e;rw [h0 h4];exact hu
theorem CsSt.no4 {R P Z:Nat} {w0 w:World} {v1 v2 v3:Value} {l:Nat→Bool} {f:Nat→Value} (h:CsSt R P Z w0 v1 v2 v3 l f w) (hl:l 0=false∨l 2=false∨l 3=false):l 4=false:=by
 cases e:l 4 with
 | false=>rfl
 | true =>
  have h1:=h.d4 e
  have h2:=h.d3 h1.2
  rcases hl with hl | hl | hl <;> simp_all
theorem CsSt.load {R P Z:Nat} {w0 w:World} {v1 v2 v3:Value} {l:Nat→Bool} {f:Nat→Value} (h:CsSt R P Z w0 v1 v2 v3 l f w) (i d:Nat) (x:Value) (hi:i < 3) (hd:d≠13) (hd3:d≠3):CsSt R P Z w0 v1 v2 v3 (fun j=>j == i || l j) (fun s=>if some d=some s then x else f s) w:=by
 have e3:((3:Nat) == i)=false:=by simp;omega
 have e4:((4:Nat) == i)=false:=by simp;omega
 have e5:((5:Nat) == i)=false:=by simp;omega
 have ef:¬ (some d=some 13):=by simpa using hd
 have eg:¬ (some d=some 3):=by simpa using hd3
 refine ⟨fun e=>?_,fun e=>?_,fun e=>?_,fun e=>?_,fun e=>?_⟩
 · simp only [e3,Bool.false_or] at e;simp [h.d3 e]
 · simp only [e4,Bool.false_or] at e;simp [(h.d4 e).1,(h.d4 e).2]
 · simp only [e3,Bool.false_or] at e;exact h.a0 e
 · simp only [e3,e4,Bool.false_or] at e ⊢
   obtain ⟨wa,y,L,h1,h2⟩:=h.a1 e
   exact ⟨wa,y,L,by simp only [if_neg ef];exact h1,h2⟩
 · simp only [e5,e3,Bool.false_or] at e ⊢
   simp only [if_neg ef,if_neg eg];exact h.a5 e
theorem CsSt.call {R P Z:Nat} {w0 w w':World} {v1 v2 v3:Value} {l:Nat→Bool} {f:Nat→Value} {x:Value} {L:List Ver} (h:CsSt R P Z w0 v1 v2 v3 l f w) (hl:l 3=false) (h2:l 2=true) (hb:CsOk w0 w' x L) (hu:Upd R w w'):CsSt R P Z w0 v1 v2 v3 (fun j=>j == 3 || l j) (fun s=>if some 13=some s then x else f s) w':=by
 have h4:=h.no4 (.inr (.inr hl))
 have h5:l 5=false:=by cases e:l 5 with | false=>rfl | true=>rw [(h.a5 e).1] at hl;cases hl
 exact ⟨fun _=>by simp [h2],fun e=>by simp [h4] at e,fun e=>by simp at e,fun _=>⟨w',x,L,by simp,hb,(h.a0 hl).1.trans hu,fun _=>rfl,fun e=>by simp [h4] at e⟩,fun e=>by simp [h5] at e⟩
theorem CsSt.st4 {R P Z:Nat} {w0 w:World} {v1 v2 v3:Value} {l:Nat→Bool} {f:Nat→Value} (x:Value) (h:CsSt R P Z w0 v1 v2 v3 l f w) (hl:l 4=false) (h0:l 0=true) (h3:l 3=true):Upd R w0 w∧CsSt R P Z w0 v1 v2 v3 (fun j=>j == 4 || l j) (fun s=>if none=some s then x else f s) (set3b w Z v1 v2 v3):=by
 refine ⟨h.upd hl,fun _=>by simpa using h.d3 h3,fun _=>by simp [h0,h3],fun e=>by simp [h3] at e,fun _=>?_,fun e=>?_⟩
 · obtain ⟨wa,y,L,h1,h2,hu,e0,-⟩:=h.a1 h3
   exact ⟨wa,y,L,by simpa using h1,h2,hu,fun e=>by simp at e,fun _=>by rw [e0 hl]⟩
 · have e':l 5=true:=by simpa using e
   have:=h.a5 e'
   exact ⟨by simp [this.1],by simpa using this.2⟩
theorem CsSt.st5 {R P Z:Nat} {w0 w:World} {v1 v2 v3:Value} {l:Nat→Bool} {f:Nat→Value} (x:Value) (h:CsSt R P Z w0 v1 v2 v3 l f w) (h3:l 3=true) (hx:f 13=x):CsSt R P Z w0 v1 v2 v3 (fun j=>j == 5 || l j) (fun s=>if some 3=some s then x else f s) w:=by
 refine ⟨fun _=>by simpa using h.d3 h3,fun e=>?_,fun e=>by simp [h3] at e,fun _=>?_,fun _=>⟨by simp [h3],by simp [hx]⟩⟩
 · have e':l 4=true:=by simpa using e
   simp [(h.d4 e').1,(h.d4 e').2]
 · obtain ⟨wa,y,L,h1,h2,hu,e0,e1⟩:=h.a1 h3
   exact ⟨wa,y,L,by simpa using h1,h2,hu,fun e=>e0 (by simpa using e),fun e=>e1 (by simpa using e)⟩
set_option maxRecDepth 100000 in
set_option maxHeartbeats 4000000 in
theorem drawCertifiedBlocks_any (a:Option Addr) (len cap:Nat) (z:List Int) (w:World) (h:RowB w a len z) (hlc:len≤cap) :
  Calls Tryz.prog 52 #[.slice a len cap] w (DrawnTS w):=by
 have hZ0:=trAt_new w 27 (.slice none 0 0) (.slice none 0 0) (.slice none 0 0)
 have hb0:=(Below.refl w.heap.size w).alloc (Nat.le_refl _) (.cells #[.slice none 0 0,.slice none 0 0,.slice none 0 0] 27)
 obtain ⟨w0,hw0⟩:∃ W1,W1=w.alloc (.cells #[.slice none 0 0,.slice none 0 0,.slice none 0 0] 27):=⟨_,rfl⟩
 have HW0:=Lib.hid hw0
 have hrb:RowB w0 a len z:=by rw [hw0];exact rowB_belowT h hb0
 rw [← hw0] at hb0 hZ0
 clear hw0 h
 have HB0:=Lib.hid hb0
 have HZ0:=Lib.hid hZ0
 have HOP:=Lib.hid (open_any a len cap z w0 hrb hlc)
 clear hb0 hZ0 hrb
 go_enter Tryz.func52,Tryz.ntmps52
 go_upto_region 1 with (fail)
 rw [← HW0.out]
 clear HW0
 go_wp2_with fail
 refine HOP.out.mono ?_;rintro e w1 ⟨R,rfl,hR,hr1,hb1,hRl⟩
 have HR0:Hid (w.heap.size < R∧R < w1.heap.size):=Lib.hid ⟨by have:=HZ0.out.lt;omega,hr1.lt⟩
 have HB1:=Lib.hid (HB0.out.trans (hb1.mono HB0.out.size))
 have HZ1:=Lib.hid (HZ0.out.below hb1)
 clear HOP hb1 HB0 HZ0 hRl hR
 go_wp2_with fail
 refine (l20Line_any R 0 12 _ hr1 (by omega) (by omega) (by omega)).mono ?_;rintro e w2 ⟨v1,v2,v3,t,rfl,hrd,hsm,hr2,hu2⟩
 obtain ⟨⟨b1,m1,d1,rfl,-⟩,⟨b2,m2,d2,rfl,-⟩,b3,m3,d3,rfl,-⟩:=hrd w2 (fun _ _ _ _=>rfl)
 have HSM:=Lib.hid hsm
 go_upto_region 3 with (fail)
 generalize hw3:World.alloc _ _=w3
 have hT3:TrAt w3 w2.heap.size (.slice b1 m1 d1) (.slice b2 m2 d2) (.slice b3 m3 d3):=by rw [← hw3];exact trAt_new w2 _ _ _ _
 have hr3:Rd w3 R (0+4000):=by rw [← hw3];exact hr2.alloc _
 have hu3:Upd R w2 w3:=by rw [← hw3];exact (Upd.refl _ _).alloc _
 have HTR:=Lib.hid (fun (W:World) (hk:∀ k,w1.heap.size < k→k < w2.heap.size→k≠R→W.heap[k]? = w3.heap[k]?)=>hrd W (fun k hk0 hk1 hk2=>(hk k hk0 hk1 hk2).trans (hu3.block k hk1 (by simp;exact hk2))))
 have HU3:=Lib.hid (hu2.trans hu3)
 have hs2:=hu2.size
 have hs1:=HZ1.out.lt
 have hs23:w2.heap.size < w3.heap.size:=hT3.lt
 obtain ⟨T,hT⟩:∃ T,T=w2.heap.size:=⟨_,rfl⟩
 rw [← hT] at hT3 ⊢
 have hRR:=HR0.out
 have HTB:=Lib.hid (fun (W:World) (hu:Upd R w3 W)=>hT3.upd hu (by omega))
 have HZK:=Lib.hid (fun (W:World) (hu:Upd R w3 W)=>HZ1.out.upd (HU3.out.trans hu) (by omega))
 have HFB:=Lib.hid (fun (W:World) (hu:Upd R w3 W)=>(HU3.out.trans hu).below HB1.out (by omega) (by omega))
 have HCT:=Lib.hid (fun (W:World) (hu:Upd R w3 W) (hr:Rd W R 4000)=>l20Certs_any R 4000 b1 m1 d1 b2 m2 d2 b3 m3 d3 t W hr (by omega) (fun W' hu'=>HTR.out W' (fun k hk0 hk1 hk2=>(hu.trans hu').block k (by omega) (by simp;exact hk2))) HSM.out)
 have hr3:Rd w3 R 4000:=hr3
 clear hw3 hT3 hu3 hrd hsm hu2 hr2 hr1 hT
 refine wp_region_light (by kernel_rfl) (fun lz fz wz=>Vals [(0,10,.agg #[.slice b1 m1 d1,.slice b2 m2 d2,.slice b3 m3 d3]),(1,11,.pointer (some ⟨R,0,none⟩)),(2,12,.agg #[.slice b1 m1 d1,.slice b2 m2 d2,.slice b3 m3 d3])] lz fz∧CsSt R 4000 w.heap.size w3 (.slice b1 m1 d1) (.slice b2 m2 d2) (.slice b3 m3 d3) lz fz wz) 14 rfl [10,11,12,13,3] (by kernel_rfl) (by kernel_rfl) (by kernel_rfl) (fun f=>⟨Vals.nothing _ f,CsSt.nothing f hr3⟩) ?_ ?_
 · intro i hi
   rcases (by have:i < 6:=hi;omega:i=0∨i=1∨i=2∨i=3∨i=4∨i=5) with rfl | rfl | rfl | rfl | rfl | rfl
   all_goals (clear hi;intro o ho lz fz w' A' ⟨hv',hr'⟩ hli ha hA' K hK;obtain rfl:=Option.some.inj ho;clear ho)
   · have g5:=slot_out hA' 5 _ (by decide) (by decide) rfl
     simp only [List.getD_cons_succ,List.getD_cons_zero] at g5
     have gg5:=slot_get g5
     rw [if_pos (by rfl)]
     obtain ⟨t0,t1,t2,-⟩:=HTB.out w' (hr'.upd (hr'.no4 (.inl hli)))
     have hF:=hK (.agg #[.slice b1 m1 d1,.slice b2 m2 d2,.slice b3 m3 d3]) w' ⟨hv'.step _ _ _ (by simp),hr'.load 0 10 _ (by decide) (by decide) (by decide)⟩
     clear hv' hr' ha hK hA' hli
     go_simp
     exact hF
   · have g4:=slot_out hA' 4 _ (by decide) (by decide) rfl
     simp only [List.getD_cons_succ,List.getD_cons_zero] at g4
     have gg4:=slot_get g4
     rw [if_pos (by rfl)]
     have hF:=hK (.pointer (some ⟨R,0,none⟩)) w' ⟨hv'.step _ _ _ (by simp),hr'.load 1 11 _ (by decide) (by decide) (by decide)⟩
     clear hv' hr' ha hK hA' hli
     go_simp
     exact hF
   · have g5:=slot_out hA' 5 _ (by decide) (by decide) rfl
     simp only [List.getD_cons_succ,List.getD_cons_zero] at g5
     have gg5:=slot_get g5
     rw [if_pos (by rfl)]
     obtain ⟨t0,t1,t2,-⟩:=HTB.out w' (hr'.upd (hr'.no4 (.inr (.inl hli))))
     have hF:=hK (.agg #[.slice b1 m1 d1,.slice b2 m2 d2,.slice b3 m3 d3]) w' ⟨hv'.step _ _ _ (by simp),hr'.load 2 12 _ (by decide) (by decide) (by decide)⟩
     clear hv' hr' ha hK hA' hli
     go_simp
     exact hF
   · have g11:=slot_in hA' 11 (by decide) (by decide) (hv'.at 1 rfl (ha 1 (by decide)))
     have g12:=slot_in hA' 12 (by decide) (by decide) (hv'.at 2 rfl (ha 2 (by decide)))
     have gg11:=slot_get g11
     have gg12:=slot_get g12
     have l2:=ha 2 (by decide)
     rw [if_pos (by rfl)]
     clear hA'
     go_simp
     refine (HCT.out w' (hr'.a0 hli).1 (hr'.a0 hli).2).mono ?_
     rintro e9 w9 ⟨v9,L9,rfl,ho9,hw9,hl9,-,hu9⟩
     have hok:CsOk w3 w9 v9 L9:=⟨⟨owns_mono ho9.1 (hr'.a0 hli).1.size,ho9.2⟩,hw9,hl9⟩
     exact hK _ w9 ⟨hv'.step _ _ _ (by simp),hr'.call hli l2 hok hu9⟩
   · have g2:=slot_out hA' 2 _ (by decide) (by decide) rfl
     simp only [List.getD_cons_succ,List.getD_cons_zero] at g2
     have g10:=slot_in hA' 10 (by decide) (by decide) (hv'.at 0 rfl (ha 0 (by decide)))
     have gg2:=slot_get g2
     have gg10:=slot_get g10
     rw [if_pos (by rfl)]
     obtain ⟨hu4,h4⟩:=hr'.st4 undef hli (ha 0 (by decide)) (ha 3 (by decide))
     have hF:=hK undef _ ⟨hv'.stepN _ _ (by simp),h4⟩
     obtain ⟨z0,z1,z2,zf0,zf1,zf2⟩:=HZK.out w' hu4
     clear hv' hr' ha hK hA' hli h4 hu4
     unfold set3b at hF
     go_simp
     exact hF
   · have l3:=ha 3 (by decide)
     obtain ⟨wa,x,L,hx13,-⟩:=hr'.a1 l3
     have g13:=slot_in hA' 13 (by decide) (by decide) hx13
     have gg13:=slot_get g13
     rw [if_pos (by rfl)]
     have hF:=hK x w' ⟨hv'.step _ _ _ (by simp),hr'.st5 x l3 hx13⟩
     clear hv' hr' ha hK hA' hli
     go_simp
     exact hF
 · intro lz fz w' hall ⟨hv',hr'⟩
   obtain ⟨wa,x,L,hx13,⟨hox,hwx,hlx⟩,hua,-,hw⟩:=hr'.a1 (hall 3 (by decide))
   have hx3:=(hr'.a5 (hall 5 (by decide))).2
   rw [hx13] at hx3
   have hwe:=hw (hall 4 (by decide))
   have hZa:=HZK.out wa hua
   have hE1:TrAt w' w.heap.size (.slice b1 m1 d1) (.slice b2 m2 d2) (.slice b3 m3 d3):=by rw [hwe];exact hZa.set3b _ _ _
   have hsw:w'.heap.size=wa.heap.size:=by rw [hwe,set3b_size]
   have hsa:=hua.size
   obtain ⟨g,c,rfl,hg3,hga,hrx,hnc⟩:=rowV_of_own hox (by omega) hwx
   have hox':w'.ownsRow w3.heap.size 29 3 (.slice (some ⟨g,0,none⟩) L.length c) L.length (flatV L):=owns_keep hox.1 (fun b hb=>by
    simp [blk] at hb
    rw [hwe]
    exact (set3b_turn wa w.heap.size (.slice b1 m1 d1) (.slice b2 m2 d2) (.slice b3 m3 d3)).block b (by omega) (by omega))
   have hE3:DrawnTS w (.returned (.tuple #[.agg #[.slice b1 m1 d1,.slice b2 m2 d2,.slice b3 m3 d3],.slice (some ⟨g,0,none⟩) L.length c])) w':=⟨b1,m1,d1,b2,m2,d2,b3,m3,d3,t,g,L.length,c,L,rfl,fun W hW=>⟨HTR.out W (fun k hk0 hk1 hk2=>by
    rw [hW k (by omega) (by omega),hwe,(set3b_turn wa w.heap.size (.slice b1 m1 d1) (.slice b2 m2 d2) (.slice b3 m3 d3)).block k (by omega) (by omega)]
    exact hua.block k (by omega) (by simp;exact hk2)),rowV_owned (owns_keep hox' (fun b hb=>by
    simp [blk] at hb
    exact hW b (by omega) (by omega))) rfl (by omega) hwx⟩,HSM.out,hnc,hlx,by rw [hwe];exact set3b_below (HFB.out wa hua) (Nat.le_refl _) _ _ _⟩
   have HE:=Lib.hid (⟨hE1,hE3⟩ : _∧_)
   clear hv' hr' hall hw hwe hZa hE1 hE3 hsw hsa hua hox hox' hrx hwx
   simp only [mixF,List.contains_cons,List.contains_nil]
   go_simp
   go_wp2_with fail
   exact bodyPost_ret (results_treS Tryz.results52 _ (by rfl) (by first | rfl | exact hx3) HE.out.1) rfl HE.out.2
theorem drawCommitHeads_any (a:Option Addr) (len cap:Nat) (z:List Int) (w:World) (h:RowB w a len z) (hlc:len≤cap) :
  Calls Tryz.prog 62 #[.slice a len cap] w (DrawnTS w):=by
 have hZ0:=trAt_new w 27 (.slice none 0 0) (.slice none 0 0) (.slice none 0 0)
 have hb0:=(Below.refl w.heap.size w).alloc (Nat.le_refl _) (.cells #[.slice none 0 0,.slice none 0 0,.slice none 0 0] 27)
 obtain ⟨w0,hw0⟩:∃ W1,W1=w.alloc (.cells #[.slice none 0 0,.slice none 0 0,.slice none 0 0] 27):=⟨_,rfl⟩
 have HW0:=Lib.hid hw0
 have hrb:RowB w0 a len z:=by rw [hw0];exact rowB_belowT h hb0
 rw [← hw0] at hb0 hZ0
 have hz0:w0.heap.size=w.heap.size+1:=by rw [hw0];simp
 clear hw0 h
 have HB0:=Lib.hid hb0
 have HZ0:=Lib.hid hZ0
 have HZS:=Lib.hid hz0
 have HOP:=Lib.hid (drawCertifiedBlocks_any a len cap z w0 hrb hlc)
 clear hb0 hZ0 hrb hz0
 go_enter Tryz.func62,Tryz.ntmps62
 go_upto_region 1 with (fail)
 rw [← HW0.out]
 clear HW0
 go_wp2_with fail
 refine HOP.out.mono ?_;rintro e w1 ⟨b1,m1,d1,b2,m2,d2,b3,m3,d3,t,g,nx,cx,L,rfl,hrd,hsm,hnc,hn31,hb1⟩
 have hZ1:=HZ0.out.below hb1
 have hbs:=set3b_below (HB0.out.trans (hb1.mono HB0.out.size)) (Nat.le_refl _) (.slice b1 m1 d1) (.slice b2 m2 d2) (.slice b3 m3 d3)
 have htn:=set3b_turn w1 w.heap.size (.slice b1 m1 d1) (.slice b2 m2 d2) (.slice b3 m3 d3)
 have HE1:=Lib.hid (hZ1.set3b (.slice b1 m1 d1) (.slice b2 m2 d2) (.slice b3 m3 d3))
 have hsz:=HZS.out
 have HE2:Hid (DrawnTS w (.returned (.tuple #[.agg #[.slice b1 m1 d1,.slice b2 m2 d2,.slice b3 m3 d3],.slice (some ⟨g,0,none⟩) nx cx])) (set3b w1 w.heap.size (.slice b1 m1 d1) (.slice b2 m2 d2) (.slice b3 m3 d3))):=Lib.hid ⟨b1,m1,d1,b2,m2,d2,b3,m3,d3,t,g,nx,cx,L,rfl,fun W hW=>hrd W (fun k h1 h2=>(hW k (by omega) (by rw [set3b_size];exact h2)).trans (htn.block k h2 (by omega))),hsm,hnc,hn31,hbs⟩
 obtain ⟨z0,z1,z2,f0,f1,f2⟩:=hZ1
 unfold set3b at HE1 HE2
 clear hrd hsm hbs htn hb1 HB0 HZ0
 go_wp2_with fail
 exact bodyPost_ret (results_treS Tryz.results62 _ (by rfl) (by rfl) HE1.out) rfl HE2.out
theorem drawCommittedTo_any (a:Option Addr) (len cap:Nat) (z:List Int) (w:World) (h:RowB w a len z) (hlc:len≤cap) :
  Calls Tryz.prog 64 #[.slice a len cap] w (DrawnTS w):=by
 have hZ0:=trAt_new w 27 (.slice none 0 0) (.slice none 0 0) (.slice none 0 0)
 have hb0:=(Below.refl w.heap.size w).alloc (Nat.le_refl _) (.cells #[.slice none 0 0,.slice none 0 0,.slice none 0 0] 27)
 obtain ⟨w0,hw0⟩:∃ W1,W1=w.alloc (.cells #[.slice none 0 0,.slice none 0 0,.slice none 0 0] 27):=⟨_,rfl⟩
 have HW0:=Lib.hid hw0
 have hrb:RowB w0 a len z:=by rw [hw0];exact rowB_belowT h hb0
 rw [← hw0] at hb0 hZ0
 have hz0:w0.heap.size=w.heap.size+1:=by rw [hw0];simp
 clear hw0 h
 have HB0:=Lib.hid hb0
 have HZ0:=Lib.hid hZ0
 have HZS:=Lib.hid hz0
 have HOP:=Lib.hid (drawCertifiedBlocks_any a len cap z w0 hrb hlc)
 clear hb0 hZ0 hrb hz0
 go_enter Tryz.func64,Tryz.ntmps64
 go_upto_region 1 with (fail)
 rw [← HW0.out]
 clear HW0
 go_wp2_with fail
 refine HOP.out.mono ?_;rintro e w1 ⟨b1,m1,d1,b2,m2,d2,b3,m3,d3,t,g,nx,cx,L,rfl,hrd,hsm,hnc,hn31,hb1⟩
 have hZ1:=HZ0.out.below hb1
 have hbs:=set3b_below (HB0.out.trans (hb1.mono HB0.out.size)) (Nat.le_refl _) (.slice b1 m1 d1) (.slice b2 m2 d2) (.slice b3 m3 d3)
 have htn:=set3b_turn w1 w.heap.size (.slice b1 m1 d1) (.slice b2 m2 d2) (.slice b3 m3 d3)
 have HE1:=Lib.hid (hZ1.set3b (.slice b1 m1 d1) (.slice b2 m2 d2) (.slice b3 m3 d3))
 have hsz:=HZS.out
 have HE2:Hid (DrawnTS w (.returned (.tuple #[.agg #[.slice b1 m1 d1,.slice b2 m2 d2,.slice b3 m3 d3],.slice (some ⟨g,0,none⟩) nx cx])) (set3b w1 w.heap.size (.slice b1 m1 d1) (.slice b2 m2 d2) (.slice b3 m3 d3))):=Lib.hid ⟨b1,m1,d1,b2,m2,d2,b3,m3,d3,t,g,nx,cx,L,rfl,fun W hW=>hrd W (fun k h1 h2=>(hW k (by omega) (by rw [set3b_size];exact h2)).trans (htn.block k h2 (by omega))),hsm,hnc,hn31,hbs⟩
 obtain ⟨z0,z1,z2,f0,f1,f2⟩:=hZ1
 unfold set3b at HE1 HE2
 clear hrd hsm hbs htn hb1 HB0 HZ0
 go_wp2_with fail
 exact bodyPost_ret (results_treS Tryz.results64 _ (by rfl) (by rfl) HE1.out) rfl HE2.out
end Go.Proofs.YtpnjgmgmakmgeaaGreat

/- The contract of the program's indexedTreeOf (gen16/ixof.py). -/
import Derived.Test.YtalohgmgkjfdbaaGreatImplTr3
import Derived.Test.YtalohgmgkjfdbaaGreatTwo
namespace Go.Proofs.YtalohgmgkjfdbaaGreat
open Go.RowKit
set_option linter.unusedVariables false
set_option linter.unusedSimpArgs false
def IxOf (w:World) (tT:TreT) (t:Tre) (e:Ending) (w':World):Prop :=
 Below w.heap.size w w'∧(treB t=false→e = .returned (.tuple #[.pointer none,.bool false]))∧(treB t=true→∃ Z m u1 u2 u3 ts,e = .returned (.tuple #[.pointer (some ⟨Z,0,none⟩),.bool true])∧TrIx w' w.heap.size Z m tT u1 u2 u3 t ts)
theorem ixOf_no {w w':World} {tT:TreT} {t:Tre} (hb:Below w.heap.size w w') (h:treB t=false):IxOf w tT t (.returned (.tuple #[.pointer none,.bool false])) w':=⟨hb,fun _=>rfl,fun e=>by rw [h] at e;cases e⟩
theorem equals_implV (x y:Blk) (a a':Option Addr) (n c n' c':Nat) (w:World) (h:RowA w a n x.acts) (h':RowA w a' n' y.acts) :
  Calls Tryz.prog 106 #[.agg #[.int .i64 x.bef,.int .i64 x.hgt,.int .i64 x.view,.slice a n c,.int .i64 x.root,.int .i64 x.effs],.agg #[.int .i64 y.bef,.int .i64 y.hgt,.int .i64 y.view,.slice a' n' c',.int .i64 y.root,.int .i64 y.effs]] w (BoolB (decide (x=y)) w):=equals_impl x.bef x.hgt x.view x.root x.effs y.bef y.hgt y.view y.root y.effs a a' n c n' c' x.acts y.acts w h h'
set_option maxRecDepth 100000 in
set_option maxHeartbeats 8000000 in
theorem indexedTreeOf_impl (v1 v2 v3:Value) (t:Tre) (w:World) (h:TreRd w v1 v2 v3 t) :
  Calls Tryz.prog 77 #[.agg #[v1,v2,v3]] w (IxOf w tTreP t):=by
 obtain ⟨⟨a1,n1,c1,rfl,r1,z1,l1⟩,⟨a2,n2,c2,rfl,r2,z2,l2⟩,a3,n3,c3,rfl,r3,z3,l3⟩:=h
 have hl1:=r1.1
 have hl2:t.blocks.length=n2:=r2.1
 have hl3:t.bef.length=n3:=r3.1
 have hm2:=r2.2.1
 have hm3:=r3.2.1
 unfold maxLen at hm2 hm3
 have hb0:=(Below.refl w.heap.size w).alloc (Nat.le_refl _) (.cells #[.slice a1 n1 c1,.slice a2 n2 c2,.slice a3 n3 c3] 28)
 have hg0:=trAt_new w 28 (.slice a1 n1 c1) (.slice a2 n2 c2) (.slice a3 n3 c3)
 obtain ⟨W1,hW1⟩:∃ W1,W1=w.alloc (.cells #[.slice a1 n1 c1,.slice a2 n2 c2,.slice a3 n3 c3] 28):=⟨_,rfl⟩
 have HW1:=Lib.hid hW1
 rw [← hW1] at hb0 hg0
 clear hW1
 have HZW:Hid (w.heap.size < W1.heap.size):=Lib.hid hg0.lt
 have HK:=Lib.hid (fun (W:World) (hb:Below W1.heap.size W1 W)=>(⟨hg0.below hb,(r1.below hb0).below hb,(r2.below hb0).below hb,(r3.below hb0).below hb,hb0.trans (hb.mono hb0.size)⟩:TrAt W w.heap.size (.slice a1 n1 c1) (.slice a2 n2 c2) (.slice a3 n3 c3)∧RowE W a1 n1 t.base∧RowBs W a2 n2 t.blocks∧RowI W a3 n3 t.bef∧Below w.heap.size w W))
 clear hb0 hg0 r1 r2 r3 z2 z3 l1 l2 l3
 have HL1:=Lib.hid hl1
 have HL2:=Lib.hid hl2
 have HL3:=Lib.hid hl3
 clear hl1 hl2 hl3
 cases e0:storeB t.base with
 | false =>
  have HR:=Lib.hid (tre_no_base e0)
  go_enter Tryz.func77,Tryz.ntmps77
  go_upto_region 1 with (fail)
  rw [← HW1.out]
  clear HW1
  obtain ⟨⟨x0,x1,x2,-⟩,q1,-,-,-⟩:=HK.out W1 (Below.refl _ _)
  have Q1:=Lib.hid q1
  clear q1
  go_wp2_with fail
  refine (storeValid_impl _ _ _ _ _ Q1.out).mono ?_;rintro e w2 ⟨rfl,hb2⟩
  have HB2:=Lib.hid hb2
  clear x0 x1 x2 Q1 hb2
  obtain ⟨⟨x0,x1,x2,-⟩,-,-,-,hbf⟩:=HK.out w2 HB2.out
  have HBF:=Lib.hid hbf
  clear hbf
  rw [e0]
  go_wp2_with fail
  go_ret2
  exact ixOf_no HBF.out HR.out
 | true =>
 by_cases h1:n2=0
 case pos =>
  have HR:=Lib.hid (tre_no_one (t:=t) (by rw [HL2.out];exact h1))
  have e1:((n2:Int) == 0)=true:=by simp;omega
  clear h1
  go_enter Tryz.func77,Tryz.ntmps77
  go_upto_region 1 with (fail)
  rw [← HW1.out]
  clear HW1
  obtain ⟨⟨x0,x1,x2,-⟩,q1,-,-,-⟩:=HK.out W1 (Below.refl _ _)
  have Q1:=Lib.hid q1
  clear q1
  go_wp2_with fail
  refine (storeValid_impl _ _ _ _ _ Q1.out).mono ?_;rintro e w2 ⟨rfl,hb2⟩
  have HB2:=Lib.hid hb2
  clear x0 x1 x2 Q1 hb2
  obtain ⟨⟨x0,x1,x2,-⟩,-,-,-,hbf⟩:=HK.out w2 HB2.out
  have HBF:=Lib.hid hbf
  clear hbf
  rw [e0]
  go_wp2_with fail
  go_ret2
  exact ixOf_no HBF.out HR.out
 have e1:((n2:Int) == 0)=false:=by simp;omega
 have hn0:0 < n2:=by omega
 clear h1
 by_cases h2:n3=n2
 case neg =>
  have HR:=Lib.hid (tre_no_len (t:=t) (by rw [HL2.out,HL3.out];exact h2))
  have e2:((n3:Int) != (n2:Int))=true:=by simp;omega
  clear h2
  go_enter Tryz.func77,Tryz.ntmps77
  go_upto_region 1 with (fail)
  rw [← HW1.out]
  clear HW1
  obtain ⟨⟨x0,x1,x2,-⟩,q1,-,-,-⟩:=HK.out W1 (Below.refl _ _)
  have Q1:=Lib.hid q1
  clear q1
  go_wp2_with fail
  refine (storeValid_impl _ _ _ _ _ Q1.out).mono ?_;rintro e w2 ⟨rfl,hb2⟩
  have HB2:=Lib.hid hb2
  clear x0 x1 x2 Q1 hb2
  obtain ⟨⟨x0,x1,x2,-⟩,-,-,-,hbf⟩:=HK.out w2 HB2.out
  have HBF:=Lib.hid hbf
  clear hbf
  rw [e0]
  go_wp2_with fail
  go_ret2
  exact ixOf_no HBF.out HR.out
 have e2:((n3:Int) != (n2:Int))=false:=by simp;omega
 obtain rfl:=h2.symm
 have HS:=Lib.hid e0
 have hn1:n1≤3000000:=by have:=(storeB_ok _).1 e0;have:=store_len e0;have:=HL1.out;omega
 go_enter Tryz.func77,Tryz.ntmps77
 go_upto_region 1 with (fail)
 rw [← HW1.out]
 clear HW1
 obtain ⟨⟨x0,x1,x2,-⟩,q1,-,-,-⟩:=HK.out W1 (Below.refl _ _)
 have Q1:=Lib.hid q1
 clear q1
 go_wp2_with fail
 refine (storeValid_impl _ _ _ _ _ Q1.out).mono ?_;rintro e w2 ⟨rfl,hb2⟩
 have HB2:=Lib.hid hb2
 clear x0 x1 x2 Q1 hb2
 obtain ⟨⟨x0,x1,x2,-⟩,-,-,-,hbf⟩:=HK.out w2 HB2.out
 have HBF:=Lib.hid hbf
 clear hbf
 rw [e0]
 clear e0
 go_wp2_with fail
 refine (newTree_impl a1 n1 c1 t.base _ (HK.out w2 HB2.out).2.1 z1 HS.out hn1).mono ?_;rintro e w3 ⟨Z,m,u1,u2,u3,ts,rfl,hix,hb3⟩
 have HB3:=Lib.hid (HB2.out.trans (hb3.mono HB2.out.size))
 have hix1:=hix.mono HB2.out.size
 have e9:treOfM t.base=⟨t.base,[firstM t.base],[-1]⟩:=by unfold treOfM;rw [if_pos HS.out]
 rw [e9] at hix1
 have HIX:=Lib.hid hix1
 clear hix hix1 hb3 x0 x1 x2 e1 e2 e9 HBF HB2
 obtain ⟨b2,off2,rfl,hbk⟩:=(HK.out w3 HB3.out).2.2.1.at 0 hn0
 obtain ⟨b3,off3,rfl,hc3⟩:=(HK.out w3 HB3.out).2.2.2.1.2.2.1 hn0
 have hc30:=hc3 0 hn0
 simp only [Nat.add_zero] at hc30
 obtain ⟨x,hx⟩:∃ x,x=t.blocks.getD 0 noBlk:=⟨_,rfl⟩
 obtain ⟨f0,hf0⟩:∃ f0,f0=t.bef.getD 0 0:=⟨_,rfl⟩
 rw [← hx] at hbk
 rw [← hf0] at hc30
 have HX:=Lib.hid hx
 have HF0:=Lib.hid hf0
 obtain ⟨g0,g1,g2,⟨v,g3,a',n',c',rfl,ra,-,-⟩,g4,g5⟩:=hbk
 simp only [Nat.zero_mul,Nat.add_zero] at g0 g1 g2 g3 g4 g5
 obtain ⟨a4,n4,c4,rfl,r4,-,-⟩:=HIX.out.rd.blocks
 obtain rfl:1=n4:=r4.1
 obtain ⟨b5,off5,rfl,hbk5⟩:=r4.at 0 (by omega)
 obtain ⟨y,hy⟩:∃ y,y=firstM t.base:=⟨_,rfl⟩
 have HY:=Lib.hid hy
 simp only [List.getD_cons_zero] at hbk5
 rw [← hy] at hbk5
 obtain ⟨k0,k1,k2,⟨v,k3,a5,n5,c5,rfl,ra5,-,-⟩,k4,k5⟩:=hbk5
 simp only [Nat.zero_mul,Nat.add_zero] at k0 k1 k2 k3 k4 k5
 have HRA:=Lib.hid ra
 have HRA5:=Lib.hid ra5
 clear hc3 hx hf0 hy ra ra5 r4
 obtain ⟨⟨x0,x1,x2,-⟩,-,-,-,-⟩:=HK.out w3 HB3.out
 obtain ⟨y0,y1,y2,y3,-⟩:=HIX.out.box
 have hzw:=World.block_lt_of_cell? w3 ⟨w.heap.size,0,none⟩ x0
 have hb2w:=World.block_lt_of_cell? w3 ⟨b2,off2,none⟩ g0
 have hb3w:=World.block_lt_of_cell? w3 ⟨b3,off3,none⟩ hc30
 have hb5w:=World.block_lt_of_cell? w3 ⟨b5,off5,none⟩ k0
 have hZw:=HIX.out.box.lt
 have HKP:Hid (∀ W':World,Below w3.heap.size w3 W'→((W'.cell? ⟨w.heap.size,0,none⟩=some (.slice a1 n1 c1)∧W'.cell? ⟨w.heap.size,1,none⟩=some (.slice (some ⟨b2,off2,none⟩) n2 c2)∧W'.cell? ⟨w.heap.size,2,none⟩=some (.slice (some ⟨b3,off3,none⟩) n2 c3))∧(W'.cell? ⟨b2,off2,none⟩=some (.int .i64 x.bef)∧W'.cell? ⟨b2,off2+1,none⟩=some (.int .i64 x.hgt)∧W'.cell? ⟨b2,off2+2,none⟩=some (.int .i64 x.view)∧W'.cell? ⟨b2,off2+3,none⟩=some (Value.slice a' n' c')∧W'.cell? ⟨b2,off2+4,none⟩=some (.int .i64 x.root)∧W'.cell? ⟨b2,off2+5,none⟩=some (.int .i64 x.effs))∧W'.cell? ⟨b3,off3,none⟩=some (.int .i64 f0)∧W'.cell? ⟨Z,1,none⟩=some (.slice (some ⟨b5,off5,none⟩) 1 c4)∧(W'.cell? ⟨b5,off5,none⟩=some (.int .i64 y.bef)∧W'.cell? ⟨b5,off5+1,none⟩=some (.int .i64 y.hgt)∧W'.cell? ⟨b5,off5+2,none⟩=some (.int .i64 y.view)∧W'.cell? ⟨b5,off5+3,none⟩=some (Value.slice a5 n5 c5)∧W'.cell? ⟨b5,off5+4,none⟩=some (.int .i64 y.root)∧W'.cell? ⟨b5,off5+5,none⟩=some (.int .i64 y.effs)))):=Lib.hid (fun W' hb=>⟨⟨below_cell hb hzw x0,below_cell hb hzw x1,below_cell hb hzw x2⟩,⟨below_cell hb hb2w g0,below_cell hb hb2w g1,below_cell hb hb2w g2,below_cell hb hb2w g3,below_cell hb hb2w g4,below_cell hb hb2w g5⟩,below_cell hb hb3w hc30,below_cell hb hZw y1,below_cell hb hb5w k0,below_cell hb hb5w k1,below_cell hb hb5w k2,below_cell hb hb5w k3,below_cell hb hb5w k4,below_cell hb hb5w k5⟩)
 clear hzw hb2w hb3w hb5w hZw x0 x1 x2 g0 g1 g2 g3 g4 g5 hc30 y0 y1 y2 y3 k0 k1 k2 k3 k4 k5
 have i1:(0:Int) < (n2:Int):=by omega
 by_cases h5:x=y
 case neg =>
  have HR:=Lib.hid (tre_no_fst (t:=t) (by simp only [blkAt];rw [← HX.out,← HY.out];exact h5))
  have e5:decide (x=y)=false:=decide_eq_false h5
  obtain ⟨q,hq⟩:∃ q,decide (x=y)=q:=⟨_,rfl⟩
  have HQ:=Lib.hid hq
  rw [hq] at e5
  clear h5 hq
  go_upto_region 4 with (fail)
  refine wp_region_light (by kernel_rfl) (fun lz fz wz=>Vals [(0,28,(.pointer (some ⟨w.heap.size,1,none⟩))),(1,29,(.slice (some ⟨b2,off2,none⟩) n2 c2)),(2,30,(.pointer (some ⟨b2,off2,none⟩))),(3,31,(.agg #[.int .i64 x.bef,.int .i64 x.hgt,.int .i64 x.view,Value.slice a' n' c',.int .i64 x.root,.int .i64 x.effs])),(4,32,(.pointer (some ⟨Z,0,none⟩))),(5,33,(.pointer (some ⟨Z,0,none⟩))),(6,34,(.pointer (some ⟨Z,0,none⟩))),(7,35,(.pointer (some ⟨Z,1,none⟩))),(8,36,(.slice (some ⟨b5,off5,none⟩) 1 c4)),(9,37,(.pointer (some ⟨b5,off5,none⟩))),(10,38,(.agg #[.int .i64 y.bef,.int .i64 y.hgt,.int .i64 y.view,Value.slice a5 n5 c5,.int .i64 y.root,.int .i64 y.effs])),(11,39,(.bool false)),(12,40,(.bool true)),(13,41,(.bool true)),(19,47,(.bool true))] lz fz∧Facts w3 [] lz fz wz) 80 rfl [28,29,30,31,32,33,34,35,36,37,38,39,40,41,42,43,44,45,46,47] (by kernel_rfl) (by kernel_rfl) (by kernel_rfl) (fun f=>⟨Vals.nothing _ f,Facts.nothing _ _ f⟩) ?_ ?_
  · intro i hi
    rcases (by have:i < 20:=hi;omega:i=0∨i=1∨i=2∨i=3∨i=4∨i=5∨i=6∨i=7∨i=8∨i=9∨i=10∨i=11∨i=12∨i=13∨i=14∨i=15∨i=16∨i=17∨i=18∨i=19) with rfl | rfl | rfl | rfl | rfl | rfl | rfl | rfl | rfl | rfl | rfl | rfl | rfl | rfl | rfl | rfl | rfl | rfl | rfl | rfl
    all_goals (clear hi;intro o ho lz fz w' A ⟨hv,hr⟩ hli ha hA K hK;obtain rfl:=Option.some.inj ho;clear ho)
    · have g1:=slot_out hA 1 _ (by decide) (by decide) rfl
      simp only [List.getD_cons_succ,List.getD_cons_zero] at g1
      have gg1:=slot_get g1
      rw [if_pos (by rfl)]
      have hF:=hK (.pointer (some ⟨w.heap.size,1,none⟩)) w' ⟨hv.step 0 28 _ (by simp),hr.step 0 28 _ (Below.refl _ _) (by simp)⟩
      clear hv hr ha hK hA hli
      go_simp
      exact hF
    · have g28:=slot_in hA 28 (by decide) (by decide) (hv.at 0 rfl (ha 0 (by simp [aftersOf,Region.binds])))
      have gg28:=slot_get g28
      rw [if_pos (by rfl)]
      obtain ⟨⟨kx0,kx1,kx2⟩,⟨kg0,kg1,kg2,kg3,kg4,kg5⟩,kc3,ky1,kk0,kk1,kk2,kk3,kk4,kk5⟩:=HKP.out w' hr.1
      have hF:=hK (.slice (some ⟨b2,off2,none⟩) n2 c2) w' ⟨hv.step 1 29 _ (by simp),hr.step 1 29 _ (Below.refl _ _) (by simp)⟩
      clear hv hr ha hK hA hli
      go_simp
      exact hF
    · have g29:=slot_in hA 29 (by decide) (by decide) (hv.at 1 rfl (ha 1 (by simp [aftersOf,Region.binds])))
      have gg29:=slot_get g29
      rw [if_pos (by rfl)]
      have hF:=hK (.pointer (some ⟨b2,off2,none⟩)) w' ⟨hv.step 2 30 _ (by simp),hr.step 2 30 _ (Below.refl _ _) (by simp)⟩
      clear hv hr ha hK hA hli
      go_simp
      exact hF
    · have g30:=slot_in hA 30 (by decide) (by decide) (hv.at 2 rfl (ha 2 (by simp [aftersOf,Region.binds])))
      have gg30:=slot_get g30
      rw [if_pos (by rfl)]
      obtain ⟨⟨kx0,kx1,kx2⟩,⟨kg0,kg1,kg2,kg3,kg4,kg5⟩,kc3,ky1,kk0,kk1,kk2,kk3,kk4,kk5⟩:=HKP.out w' hr.1
      have hF:=hK (.agg #[.int .i64 x.bef,.int .i64 x.hgt,.int .i64 x.view,Value.slice a' n' c',.int .i64 x.root,.int .i64 x.effs]) w' ⟨hv.step 3 31 _ (by simp),hr.step 3 31 _ (Below.refl _ _) (by simp)⟩
      clear hv hr ha hK hA hli
      go_simp
      exact hF
    · have g4:=slot_out hA 4 _ (by decide) (by decide) rfl
      simp only [List.getD_cons_succ,List.getD_cons_zero] at g4
      have gg4:=slot_get g4
      rw [if_pos (by rfl)]
      have hF:=hK (.pointer (some ⟨Z,0,none⟩)) w' ⟨hv.step 4 32 _ (by simp),hr.step 4 32 _ (Below.refl _ _) (by simp)⟩
      clear hv hr ha hK hA hli
      go_simp
      exact hF
    · have g32:=slot_in hA 32 (by decide) (by decide) (hv.at 4 rfl (ha 4 (by simp [aftersOf,Region.binds])))
      have gg32:=slot_get g32
      rw [if_pos (by rfl)]
      have hF:=hK (.pointer (some ⟨Z,0,none⟩)) w' ⟨hv.step 5 33 _ (by simp),hr.step 5 33 _ (Below.refl _ _) (by simp)⟩
      clear hv hr ha hK hA hli
      go_simp
      exact hF
    · have g33:=slot_in hA 33 (by decide) (by decide) (hv.at 5 rfl (ha 5 (by simp [aftersOf,Region.binds])))
      have gg33:=slot_get g33
      rw [if_pos (by rfl)]
      have hF:=hK (.pointer (some ⟨Z,0,none⟩)) w' ⟨hv.step 6 34 _ (by simp),hr.step 6 34 _ (Below.refl _ _) (by simp)⟩
      clear hv hr ha hK hA hli
      go_simp
      exact hF
    · have g34:=slot_in hA 34 (by decide) (by decide) (hv.at 6 rfl (ha 6 (by simp [aftersOf,Region.binds])))
      have gg34:=slot_get g34
      rw [if_pos (by rfl)]
      have hF:=hK (.pointer (some ⟨Z,1,none⟩)) w' ⟨hv.step 7 35 _ (by simp),hr.step 7 35 _ (Below.refl _ _) (by simp)⟩
      clear hv hr ha hK hA hli
      go_simp
      exact hF
    · have g35:=slot_in hA 35 (by decide) (by decide) (hv.at 7 rfl (ha 7 (by simp [aftersOf,Region.binds])))
      have gg35:=slot_get g35
      rw [if_pos (by rfl)]
      obtain ⟨⟨kx0,kx1,kx2⟩,⟨kg0,kg1,kg2,kg3,kg4,kg5⟩,kc3,ky1,kk0,kk1,kk2,kk3,kk4,kk5⟩:=HKP.out w' hr.1
      have hF:=hK (.slice (some ⟨b5,off5,none⟩) 1 c4) w' ⟨hv.step 8 36 _ (by simp),hr.step 8 36 _ (Below.refl _ _) (by simp)⟩
      clear hv hr ha hK hA hli
      go_simp
      exact hF
    · have g36:=slot_in hA 36 (by decide) (by decide) (hv.at 8 rfl (ha 8 (by simp [aftersOf,Region.binds])))
      have gg36:=slot_get g36
      rw [if_pos (by rfl)]
      have hF:=hK (.pointer (some ⟨b5,off5,none⟩)) w' ⟨hv.step 9 37 _ (by simp),hr.step 9 37 _ (Below.refl _ _) (by simp)⟩
      clear hv hr ha hK hA hli
      go_simp
      exact hF
    · have g37:=slot_in hA 37 (by decide) (by decide) (hv.at 9 rfl (ha 9 (by simp [aftersOf,Region.binds])))
      have gg37:=slot_get g37
      rw [if_pos (by rfl)]
      obtain ⟨⟨kx0,kx1,kx2⟩,⟨kg0,kg1,kg2,kg3,kg4,kg5⟩,kc3,ky1,kk0,kk1,kk2,kk3,kk4,kk5⟩:=HKP.out w' hr.1
      have hF:=hK (.agg #[.int .i64 y.bef,.int .i64 y.hgt,.int .i64 y.view,Value.slice a5 n5 c5,.int .i64 y.root,.int .i64 y.effs]) w' ⟨hv.step 10 38 _ (by simp),hr.step 10 38 _ (Below.refl _ _) (by simp)⟩
      clear hv hr ha hK hA hli
      go_simp
      exact hF
    · have g31:=slot_in hA 31 (by decide) (by decide) (hv.at 3 rfl (ha 3 (by simp [aftersOf,Region.binds])))
      have g38:=slot_in hA 38 (by decide) (by decide) (hv.at 10 rfl (ha 10 (by simp [aftersOf,Region.binds])))
      have gg31:=slot_get g31
      have gg38:=slot_get g38
      rw [if_pos (by rfl)]
      clear hA
      go_simp
      refine (equals_implV x y a' a5 n' c' n5 c5 _ (HRA.out.below hr.1) (HRA5.out.below hr.1)).mono ?_
      rintro e9 w9 ⟨rfl,hb9⟩
      rw [HQ.out,e5]
      exact hK (.bool false) w9 ⟨hv.step 11 39 _ (by simp),hr.step 11 39 _ hb9 (by simp)⟩
    · have g39:=slot_in hA 39 (by decide) (by decide) (hv.at 11 rfl (ha 11 (by simp [aftersOf,Region.binds])))
      have gg39:=slot_get g39
      rw [if_pos (by rfl)]
      have hF:=hK (.bool true) w' ⟨hv.step 12 40 _ (by simp),hr.step 12 40 _ (Below.refl _ _) (by simp)⟩
      clear hv hr ha hK hA hli
      go_simp
      exact hF
    · have g40:=slot_in hA 40 (by decide) (by decide) (hv.at 12 rfl (ha 12 (by simp [aftersOf,Region.binds])))
      have gg40:=slot_get g40
      rw [if_pos (by rfl)]
      have hF:=hK (.bool true) w' ⟨hv.step 13 41 _ (by simp),hr.step 13 41 _ (Below.refl _ _) (by simp)⟩
      clear hv hr ha hK hA hli
      go_simp
      exact hF
    iterate 5
     · have g41:=slot_in hA 41 (by decide) (by decide) (hv.at 13 rfl (ha 13 (by simp [aftersOf,Region.binds])))
       have gw:=slot_bool g41
       rw [if_neg (by simp [Region.wanted,yielded,gw])]
       exact hK undef w' ⟨hv.step _ _ _ (by simp),hr.step _ _ _ (Below.refl _ _) (by simp)⟩
    · have g41:=slot_in hA 41 (by decide) (by decide) (hv.at 13 rfl (ha 13 (by simp [aftersOf,Region.binds])))
      have gg41:=slot_get g41
      rw [if_pos (by rfl)]
      have hF:=hK (.bool true) w' ⟨hv.step 19 47 _ (by simp),hr.step 19 47 _ (Below.refl _ _) (by simp)⟩
      clear hv hr ha hK hA hli
      go_simp
      exact hF
  · intro lz fz w6 hall ⟨hv,hq⟩
    have h47:=hv.at 14 rfl (hall 19 (by decide))
    have hbR:=hq.1
    clear hv hq hall
    simp only [mixF,List.contains_cons,List.contains_nil]
    go_simp
    have HBF:=Lib.hid (HK.out _ (HB3.out.trans (hbR.mono HB3.out.size))).2.2.2.2
    clear hbR
    go_wp2_with fail
    go_ret2
    exact ixOf_no HBF.out HR.out
 have HXY:=Lib.hid h5
 obtain ⟨q,hq⟩:∃ q,decide (x=y)=q:=⟨_,rfl⟩
 have HQ:=Lib.hid hq
 have e5:q=true:=by rw [← hq];exact decide_eq_true h5
 clear h5 hq
 by_cases h6:f0 = -1
 case neg =>
  have HR:=Lib.hid (tre_no_root (t:=t) (by rw [← HF0.out];exact h6))
  have e6:(f0 != -1)=true:=by simp [h6]
  clear h6
  go_upto_region 4 with (fail)
  have hkp0:=HKP.out _ (Below.refl _ _)
  go_region_held3 (fun W'=>((W'.cell? ⟨w.heap.size,0,none⟩=some (.slice a1 n1 c1)∧W'.cell? ⟨w.heap.size,1,none⟩=some (.slice (some ⟨b2,off2,none⟩) n2 c2)∧W'.cell? ⟨w.heap.size,2,none⟩=some (.slice (some ⟨b3,off3,none⟩) n2 c3))∧(W'.cell? ⟨b2,off2,none⟩=some (.int .i64 x.bef)∧W'.cell? ⟨b2,off2+1,none⟩=some (.int .i64 x.hgt)∧W'.cell? ⟨b2,off2+2,none⟩=some (.int .i64 x.view)∧W'.cell? ⟨b2,off2+3,none⟩=some (Value.slice a' n' c')∧W'.cell? ⟨b2,off2+4,none⟩=some (.int .i64 x.root)∧W'.cell? ⟨b2,off2+5,none⟩=some (.int .i64 x.effs))∧W'.cell? ⟨b3,off3,none⟩=some (.int .i64 f0)∧W'.cell? ⟨Z,1,none⟩=some (.slice (some ⟨b5,off5,none⟩) 1 c4)∧(W'.cell? ⟨b5,off5,none⟩=some (.int .i64 y.bef)∧W'.cell? ⟨b5,off5+1,none⟩=some (.int .i64 y.hgt)∧W'.cell? ⟨b5,off5+2,none⟩=some (.int .i64 y.view)∧W'.cell? ⟨b5,off5+3,none⟩=some (Value.slice a5 n5 c5)∧W'.cell? ⟨b5,off5+4,none⟩=some (.int .i64 y.root)∧W'.cell? ⟨b5,off5+5,none⟩=some (.int .i64 y.effs)))) (first | exact hkp0 | exact hkp | go_keep)
   (first | (go_at_call 106;refine (equals_implV x y a' a5 n' c' n5 c5 w3.drew (show RowA w3.drew _ _ _ from HRA.out) (show RowA w3.drew _ _ _ from HRA5.out)).mono ?_;rintro e1 w4 ⟨rfl,hb4'⟩;have hb4:=(Below.refl w3.heap.size w3).drew.trans hb4';have hkp:=HKP.out _ hb4;rw [HQ.out,e5]))
  have HB4:=Lib.hid (HB3.out.trans (hb4.mono HB3.out.size))
  have HIX4:=Lib.hid (HIX.out.below hb4)
  clear hkp hkp0 hb4 hb4' HKP HIX HRA HRA5
  have HBF:=Lib.hid (HK.out _ HB4.out).2.2.2.2
  go_wp2_with fail
  go_ret2
  exact ixOf_no HBF.out HR.out
 have e6:(f0 != -1)=false:=by simp [h6]
 have HPRE:Hid (t.pre 1=⟨t.base,[firstM t.base],[-1]⟩):=Lib.hid (by
  have:=tre_pre_one (t:=t) HS.out (by rw [HL2.out];exact hn0) (by rw [HL3.out,HL2.out]) (by rw [← HF0.out];exact h6) (by simp only [blkAt];rw [← HX.out,← HY.out];exact HXY.out)
  rw [this];unfold treOfM;rw [if_pos HS.out])
 clear h6
 go_upto_region 4 with (fail)
 have hkp0:=HKP.out _ (Below.refl _ _)
 go_region_held3 (fun W'=>((W'.cell? ⟨w.heap.size,0,none⟩=some (.slice a1 n1 c1)∧W'.cell? ⟨w.heap.size,1,none⟩=some (.slice (some ⟨b2,off2,none⟩) n2 c2)∧W'.cell? ⟨w.heap.size,2,none⟩=some (.slice (some ⟨b3,off3,none⟩) n2 c3))∧(W'.cell? ⟨b2,off2,none⟩=some (.int .i64 x.bef)∧W'.cell? ⟨b2,off2+1,none⟩=some (.int .i64 x.hgt)∧W'.cell? ⟨b2,off2+2,none⟩=some (.int .i64 x.view)∧W'.cell? ⟨b2,off2+3,none⟩=some (Value.slice a' n' c')∧W'.cell? ⟨b2,off2+4,none⟩=some (.int .i64 x.root)∧W'.cell? ⟨b2,off2+5,none⟩=some (.int .i64 x.effs))∧W'.cell? ⟨b3,off3,none⟩=some (.int .i64 f0)∧W'.cell? ⟨Z,1,none⟩=some (.slice (some ⟨b5,off5,none⟩) 1 c4)∧(W'.cell? ⟨b5,off5,none⟩=some (.int .i64 y.bef)∧W'.cell? ⟨b5,off5+1,none⟩=some (.int .i64 y.hgt)∧W'.cell? ⟨b5,off5+2,none⟩=some (.int .i64 y.view)∧W'.cell? ⟨b5,off5+3,none⟩=some (Value.slice a5 n5 c5)∧W'.cell? ⟨b5,off5+4,none⟩=some (.int .i64 y.root)∧W'.cell? ⟨b5,off5+5,none⟩=some (.int .i64 y.effs)))) (first | exact hkp0 | exact hkp | go_keep)
  (first | (go_at_call 106;refine (equals_implV x y a' a5 n' c' n5 c5 w3.drew (show RowA w3.drew _ _ _ from HRA.out) (show RowA w3.drew _ _ _ from HRA5.out)).mono ?_;rintro e1 w4 ⟨rfl,hb4'⟩;have hb4:=(Below.refl w3.heap.size w3).drew.trans hb4';have hkp:=HKP.out _ hb4;rw [HQ.out,e5]))
 have HB4:=Lib.hid (HB3.out.trans (hb4.mono HB3.out.size))
 have HIX4:=Lib.hid (HIX.out.below hb4)
 clear hkp hkp0 hb4 hb4' HKP HIX HRA HRA5
 have HT1:Hid (treB (t.pre 1)=true):=Lib.hid (by rw [HPRE.out];exact (treB_iff _).2 (treOk_one HS.out))
 go_wp2_with fail
 have HST:Hid (∃ u1 u2 u3 ts,TrIx w4 W1.heap.size Z m tTreP u1 u2 u3 (t.pre 1) ts):=Lib.hid ⟨_,_,_,_,by rw [HPRE.out];exact HIX4.out⟩
 clear HIX4 HPRE HX HF0 HY HXY HQ e5 e6 HB3
 go_loopw [5] (fun i wr=>∃ k:Nat,1≤k∧k≤n2∧i = .int .i64 k∧treB (t.pre k)=true∧(∃ u1 u2 u3 ts,TrIx wr W1.heap.size Z m tTreP u1 u2 u3 (t.pre k) ts)∧Below W1.heap.size W1 wr) (fun i _=>n2 - (intOf i).toNat)
 case atStart=>exact ⟨1,by omega,by omega,rfl,HT1.out,HST.out,HB4.out⟩
 case round =>
  clear HST HT1 HB4
  obtain ⟨k,hk1,hk,rfl,htb,⟨u1,u2,u3,ts,hix⟩,hb⟩:=hrel
  have HTB:=Lib.hid htb
  have HIX:=Lib.hid hix
  have HB:=Lib.hid hb
  clear htb hix hb
  by_cases hlt:k < n2
  · obtain ⟨b,off,hae,hbk⟩:=(HK.out W1 (Below.refl _ _)).2.2.1.at k hlt
    obtain ⟨b3',off3',h3e,hc3⟩:=(HK.out W1 (Below.refl _ _)).2.2.2.1.2.2.1 hn0
    obtain ⟨rfl,rfl⟩:b3=b3'∧off3=off3':=by simpa using h3e
    have hc3k:=hc3 k hlt
    have hwb:=(HK.out W1 (Below.refl _ _)).2.2.1.bd k hlt
    have hkl:k < t.blocks.length:=by rw [HL2.out];exact hlt
    have hlen:t.bef.length=t.blocks.length:=by rw [HL3.out,HL2.out]
    have HNP:=Lib.hid (fun (h:putB (t.pre k) (blkAt t.blocks k)=false)=>tre_no_put (t:=t) (by omega) hkl h)
    have HNB:=Lib.hid (fun (h:findL (t.blocks.take k) (blkAt t.blocks k).bef≠t.bef.getD k 0)=>tre_no_bef (t:=t) (by omega) hkl h)
    have HNX:=Lib.hid (fun (hp:putB (t.pre k) (blkAt t.blocks k)=true) (he:findL (t.blocks.take k) (blkAt t.blocks k).bef=t.bef.getD k 0)=>(⟨tre_pre_next hkl hlen HTB.out hp he,pre_next hkl hlen he⟩:treB (t.pre (k+1))=true∧(t.pre k).add (blkAt t.blocks k)=t.pre (k+1)))
    have HPL:Hid ((t.pre k).bef.length=k):=Lib.hid (by simp [Tre.pre];rw [HL3.out];omega)
    have hwi:(Lit.int .i64 (findL (t.blocks.take k) (blkAt t.blocks k).bef)).wf=true:=by
     have h1:=findL_bd (t.blocks.take k) (blkAt t.blocks k).bef
     have h2:(t.blocks.take k).length≤n2:=by rw [List.length_take,HL2.out];omega
     exact WalkArith.wf_i64 (by omega)
    simp only [blkAt] at HNP HNB HNX hwi
    obtain ⟨x,hx⟩:∃ x,x=t.blocks.getD k noBlk:=⟨_,rfl⟩
    rw [← hx] at hbk HNP HNB HNX hwb hwi
    clear hx h3e hc3 hkl hlen
    obtain ⟨f,hfe⟩:∃ f,f=t.bef.getD k 0:=⟨_,rfl⟩
    rw [← hfe] at hc3k HNB HNX
    clear hfe
    obtain ⟨fn,hfn⟩:∃ fn,fn=findL (t.blocks.take k) x.bef:=⟨_,rfl⟩
    rw [← hfn] at HNB HNX hwi
    have HFN:=Lib.hid hfn
    clear hfn
    obtain ⟨g0,g1,g2,⟨v,g3,a',n',c',rfl,ra,za,-⟩,g4,g5⟩:=hbk
    have hNE:0 < n'→∀ p o,a'=some ⟨p,o,none⟩→p≠m:=fun h0 p o he=>by
     obtain ⟨p',o',he',hcc⟩:=ra.2.2.1 h0
     rw [he] at he'
     obtain ⟨rfl,rfl⟩:p=p'∧o=o':=by simpa using he'
     have h1:=World.block_lt_of_cell? W1 ⟨p,o+0*4,none⟩ (hcc 0 h0).1
     have h2:=HIX.out.mB
     simp only at h1
     omega
    have HNE:=Lib.hid hNE
    obtain ⟨⟨x0,x1,x2,-⟩,-,-,-,-⟩:=HK.out W1 (Below.refl _ _)
    obtain ⟨rfl,rfl⟩:b=b2∧off=off2:=by simpa using hae.symm
    clear hae
    have hzw:=World.block_lt_of_cell? W1 ⟨w.heap.size,0,none⟩ x0
    have hbw:=World.block_lt_of_cell? W1 ⟨b,off+k*6,none⟩ g0
    have hb3w:=World.block_lt_of_cell? W1 ⟨b3,off3+k,none⟩ hc3k
    have HKP:Hid (∀ W':World,Below W1.heap.size W1 W'→(W'.cell? ⟨w.heap.size,0,none⟩=some (.slice a1 n1 c1)∧W'.cell? ⟨w.heap.size,1,none⟩=some (.slice (some ⟨b,off,none⟩) n2 c2)∧W'.cell? ⟨w.heap.size,2,none⟩=some (.slice (some ⟨b3,off3,none⟩) n2 c3))∧(W'.cell? ⟨b,off+k*6,none⟩=some (.int .i64 x.bef)∧W'.cell? ⟨b,off+k*6+1,none⟩=some (.int .i64 x.hgt)∧W'.cell? ⟨b,off+k*6+2,none⟩=some (.int .i64 x.view)∧W'.cell? ⟨b,off+k*6+3,none⟩=some (Value.slice a' n' c')∧W'.cell? ⟨b,off+k*6+4,none⟩=some (.int .i64 x.root)∧W'.cell? ⟨b,off+k*6+5,none⟩=some (.int .i64 x.effs))∧W'.cell? ⟨b3,off3+k,none⟩=some (.int .i64 f)∧RowA W' a' n' x.acts):=Lib.hid (fun W' hb=>⟨⟨below_cell hb hzw x0,below_cell hb hzw x1,below_cell hb hzw x2⟩,⟨below_cell hb hbw g0,below_cell hb hbw g1,below_cell hb hbw g2,below_cell hb hbw g3,below_cell hb hbw g4,below_cell hb hbw g5⟩,below_cell hb hb3w hc3k,ra.below hb⟩)
    clear hzw hbw hb3w x0 x1 x2 g0 g1 g2 g3 g4 g5 hc3k ra hNE
    have HZA:=Lib.hid za
    have HWB:=Lib.hid hwb
    have HWI:=Lib.hid hwi
    clear za hwb hwi
    have i1:(0:Int)≤(k:Int):=by omega
    have i2:(k:Int) < (n2:Int):=by omega
    obtain ⟨⟨x0,x1,x2⟩,⟨g0,g1,g2,g3,g4,g5⟩,hc3k,-⟩:=HKP.out wr HB.out
    have HPUT:=Lib.hid (put_impl W1.heap.size Z m u1 u2 u3 (t.pre k) ts x a' n' c' wr.drew (HIX.out.below (Below.refl _ _).drew) HTB.out (show RowA wr.drew a' n' x.acts from (HKP.out wr HB.out).2.2.2) HZA.out HWB.out HNE.out)
    cases hpb:putB (t.pre k) x with
    | false =>
     have HR:=Lib.hid (HNP.out hpb)
     have HPB:=Lib.hid hpb
     clear hpb
     go_upto_region 9 with (fail)
     refine wp_region_light (by kernel_rfl) (fun lz fz wz=>Vals [(0,55,(.pointer (some ⟨Z,0,none⟩))),(1,56,(.pointer (some ⟨w.heap.size,1,none⟩))),(2,57,(.slice (some ⟨b,off,none⟩) n2 c2)),(3,58,(.int .i64 (k:Int))),(4,59,(.pointer (some ⟨b,off+k*6,none⟩))),(5,60,(.agg #[.int .i64 x.bef,.int .i64 x.hgt,.int .i64 x.view,Value.slice a' n' c',.int .i64 x.root,.int .i64 x.effs])),(6,61,(.bool false)),(7,62,(.bool true)),(8,63,(.bool true)),(23,78,(.bool true))] lz fz∧CallW 6 (fun W=>W=wr.drew) (fun W=>Below W1.heap.size W1 W) lz wz) 80 rfl [55,56,57,58,59,60,61,62,63,64,65,66,67,68,69,70,71,72,73,74,75,76,77,78] (by kernel_rfl) (by kernel_rfl) (by kernel_rfl) (fun f=>⟨Vals.nothing _ f,CallW.nothing (rfl)⟩) ?_ ?_
     · intro i hi
       rcases (by have:i < 24:=hi;omega:i=0∨i=1∨i=2∨i=3∨i=4∨i=5∨i=6∨i=7∨i=8∨i=9∨i=10∨i=11∨i=12∨i=13∨i=14∨i=15∨i=16∨i=17∨i=18∨i=19∨i=20∨i=21∨i=22∨i=23) with rfl | rfl | rfl | rfl | rfl | rfl | rfl | rfl | rfl | rfl | rfl | rfl | rfl | rfl | rfl | rfl | rfl | rfl | rfl | rfl | rfl | rfl | rfl | rfl
       all_goals (clear hi;intro o ho lz fz w' A ⟨hv,hr⟩ hli ha hA K hK;obtain rfl:=Option.some.inj ho;clear ho)
       · have g4:=slot_out hA 4 _ (by decide) (by decide) rfl
         simp only [List.getD_cons_succ,List.getD_cons_zero] at g4
         have gg4:=slot_get g4
         rw [if_pos (by rfl)]
         have hF:=hK (.pointer (some ⟨Z,0,none⟩)) w' ⟨hv.step 0 55 _ (by simp),hr.still 0 (by decide)⟩
         clear hv hr ha hK hA hli
         go_simp
         exact hF
       · have g1:=slot_out hA 1 _ (by decide) (by decide) rfl
         simp only [List.getD_cons_succ,List.getD_cons_zero] at g1
         have gg1:=slot_get g1
         rw [if_pos (by rfl)]
         have hF:=hK (.pointer (some ⟨w.heap.size,1,none⟩)) w' ⟨hv.step 1 56 _ (by simp),hr.still 1 (by decide)⟩
         clear hv hr ha hK hA hli
         go_simp
         exact hF
       · have g56:=slot_in hA 56 (by decide) (by decide) (hv.at 1 rfl (ha 1 (by simp [aftersOf,Region.binds])))
         have gg56:=slot_get g56
         rw [if_pos (by rfl)]
         obtain ⟨⟨kx0,kx1,kx2⟩,⟨kg0,kg1,kg2,kg3,kg4,kg5⟩,-,-⟩:=HKP.out w' (hr.imp (fun W e=>by rw [e];exact HB.out.drew) (fun W h=>h))
         have hF:=hK (.slice (some ⟨b,off,none⟩) n2 c2) w' ⟨hv.step 2 57 _ (by simp),hr.still 2 (by decide)⟩
         clear hv hr ha hK hA hli
         go_simp
         exact hF
       · have g5:=slot_out hA 5 _ (by decide) (by decide) rfl
         simp only [List.getD_cons_succ,List.getD_cons_zero] at g5
         have gg5:=slot_get g5
         rw [if_pos (by rfl)]
         have hF:=hK (.int .i64 (k:Int)) w' ⟨hv.step 3 58 _ (by simp),hr.still 3 (by decide)⟩
         clear hv hr ha hK hA hli
         go_simp
         exact hF
       · have g57:=slot_in hA 57 (by decide) (by decide) (hv.at 2 rfl (ha 2 (by simp [aftersOf,Region.binds])))
         have g58:=slot_in hA 58 (by decide) (by decide) (hv.at 3 rfl (ha 3 (by simp [aftersOf,Region.binds])))
         have gg57:=slot_get g57
         have gg58:=slot_get g58
         rw [if_pos (by rfl)]
         have hF:=hK (.pointer (some ⟨b,off+k*6,none⟩)) w' ⟨hv.step 4 59 _ (by simp),hr.still 4 (by decide)⟩
         clear hv hr ha hK hA hli
         go_simp
         exact hF
       · have g59:=slot_in hA 59 (by decide) (by decide) (hv.at 4 rfl (ha 4 (by simp [aftersOf,Region.binds])))
         have gg59:=slot_get g59
         rw [if_pos (by rfl)]
         obtain ⟨⟨kx0,kx1,kx2⟩,⟨kg0,kg1,kg2,kg3,kg4,kg5⟩,-,-⟩:=HKP.out w' (hr.imp (fun W e=>by rw [e];exact HB.out.drew) (fun W h=>h))
         have hF:=hK (.agg #[.int .i64 x.bef,.int .i64 x.hgt,.int .i64 x.view,Value.slice a' n' c',.int .i64 x.root,.int .i64 x.effs]) w' ⟨hv.step 5 60 _ (by simp),hr.still 5 (by decide)⟩
         clear hv hr ha hK hA hli
         go_simp
         exact hF
       · have g55:=slot_in hA 55 (by decide) (by decide) (hv.at 0 rfl (ha 0 (by simp [aftersOf,Region.binds])))
         have g60:=slot_in hA 60 (by decide) (by decide) (hv.at 5 rfl (ha 5 (by simp [aftersOf,Region.binds])))
         have gg55:=slot_get g55
         have gg60:=slot_get g60
         rw [if_pos (by rfl)]
         clear hA
         go_simp
         have hw0:w'=wr.drew:=hr.1 hli
         subst hw0
         refine HPUT.out.mono ?_
         rintro e9 w9 ⟨rfl,hb7',-,-,-⟩
         have hS9:Below W1.heap.size W1 w9:=HB.out.trans ((Below.refl wr.heap.size wr).drew.mono HB.out.size |>.trans hb7')
         rw [HPB.out]
         exact hK (.bool false) w9 ⟨hv.step 6 61 _ (by simp),CallW.call hS9⟩
       · have g61:=slot_in hA 61 (by decide) (by decide) (hv.at 6 rfl (ha 6 (by simp [aftersOf,Region.binds])))
         have gg61:=slot_get g61
         rw [if_pos (by rfl)]
         have hF:=hK (.bool true) w' ⟨hv.step 7 62 _ (by simp),hr.still 7 (by decide)⟩
         clear hv hr ha hK hA hli
         go_simp
         exact hF
       · have g62:=slot_in hA 62 (by decide) (by decide) (hv.at 7 rfl (ha 7 (by simp [aftersOf,Region.binds])))
         have gg62:=slot_get g62
         rw [if_pos (by rfl)]
         have hF:=hK (.bool true) w' ⟨hv.step 8 63 _ (by simp),hr.still 8 (by decide)⟩
         clear hv hr ha hK hA hli
         go_simp
         exact hF
       iterate 14
        · have g63:=slot_in hA 63 (by decide) (by decide) (hv.at 8 rfl (ha 8 (by simp [aftersOf,Region.binds])))
          have gw:=slot_bool g63
          rw [if_neg (by simp [Region.wanted,yielded,gw])]
          exact hK undef w' ⟨hv.step _ _ _ (by simp),hr.still _ (by decide)⟩
       · have g63:=slot_in hA 63 (by decide) (by decide) (hv.at 8 rfl (ha 8 (by simp [aftersOf,Region.binds])))
         have gg63:=slot_get g63
         rw [if_pos (by rfl)]
         have hF:=hK (.bool true) w' ⟨hv.step 23 78 _ (by simp),hr.still 23 (by decide)⟩
         clear hv hr ha hK hA hli
         go_simp
         exact hF
     · intro lz fz w6 hall ⟨hv,hq⟩
       have h78:=hv.at 9 rfl (hall 23 (by decide))
       have hSR:=hq.2 (hall 6 (by decide))
       clear hv hq hall
       simp only [mixF,List.contains_cons,List.contains_nil]
       go_simp
       have HBF:=Lib.hid (HK.out _ hSR).2.2.2.2
       go_wp2_with fail
       go_ret2
       exact ixOf_no HBF.out HR.out
    | true =>
     have HPB:=Lib.hid hpb
     have HNX1:=Lib.hid (HNX.out hpb)
     have HGD:Hid (((t.pre k).add x).bef.getD k 0=fn∧((t.pre k).add x).bef.length=k+1):=Lib.hid (by
      constructor
      · have:=getD_last (t.pre k).bef (findL (t.pre k).blocks x.bef) 0
        rw [HPL.out] at this
        show ((t.pre k).bef++[findL (t.pre k).blocks x.bef]).getD k 0=fn
        rw [this,HFN.out];rfl
      · show ((t.pre k).bef++[findL (t.pre k).blocks x.bef]).length=k+1
        rw [List.length_append,HPL.out];rfl)
     clear hpb
     by_cases h6:fn=f
     case neg =>
      have e6:(fn != f)=true:=by simp [h6]
      have HR:=Lib.hid (HNB.out (fun e=>h6 e))
      have i3:(k:Int) < ((k+1:Nat):Int):=by omega
      have i4:(k:Int) < (k:Int)+1:=by omega
      clear h6
      go_upto_region 9 with (fail)
      refine wp_region_light (by kernel_rfl) (fun lz fz wz=>Vals [(0,55,(.pointer (some ⟨Z,0,none⟩))),(1,56,(.pointer (some ⟨w.heap.size,1,none⟩))),(2,57,(.slice (some ⟨b,off,none⟩) n2 c2)),(3,58,(.int .i64 (k:Int))),(4,59,(.pointer (some ⟨b,off+k*6,none⟩))),(5,60,(.agg #[.int .i64 x.bef,.int .i64 x.hgt,.int .i64 x.view,Value.slice a' n' c',.int .i64 x.root,.int .i64 x.effs])),(6,61,(.bool true))] lz fz∧Late 6 lz∧∃ (b6 off6 c6:Nat),Vals [(7,62,(.bool false)),(8,63,(.bool false)),(9,64,(.pointer (some ⟨Z,0,none⟩))),(10,65,(.pointer (some ⟨Z,0,none⟩))),(11,66,(.pointer (some ⟨Z,0,none⟩))),(12,67,(.pointer (some ⟨Z,2,none⟩))),(13,68,(.slice (some ⟨b6,off6,none⟩) (k+1) c6)),(14,69,(.int .i64 (k:Int))),(15,70,(.pointer (some ⟨b6,off6+k,none⟩))),(16,71,(.int .i64 fn)),(17,72,(.pointer (some ⟨w.heap.size,2,none⟩))),(18,73,(.slice (some ⟨b3,off3,none⟩) n2 c3)),(19,74,(.int .i64 (k:Int))),(20,75,(.pointer (some ⟨b3,off3+k,none⟩))),(21,76,(.int .i64 f)),(22,77,(.bool true)),(23,78,(.bool true))] lz fz∧CallW 6 (fun W=>W=wr.drew) (fun W=>Below W1.heap.size W1 W∧W.cell? ⟨Z,2,none⟩=some (.slice (some ⟨b6,off6,none⟩) (k+1) c6)∧W.cell? ⟨b6,off6+k,none⟩=some (.int .i64 fn)∧∃ v2' ts',TrIx W W1.heap.size Z m tTreP u1 v2' (.slice (some ⟨b6,off6,none⟩) (k+1) c6) ((t.pre k).add x) ts') lz wz) 80 rfl [55,56,57,58,59,60,61,62,63,64,65,66,67,68,69,70,71,72,73,74,75,76,77,78] (by kernel_rfl) (by kernel_rfl) (by kernel_rfl) (fun f=>⟨Vals.nothing _ f,Late.nothing _,default,default,default,Vals.nothing _ f,CallW.nothing (rfl)⟩) ?_ ?_
      · intro i hi
        rcases (by have:i < 24:=hi;omega:i=0∨i=1∨i=2∨i=3∨i=4∨i=5∨i=6∨i=7∨i=8∨i=9∨i=10∨i=11∨i=12∨i=13∨i=14∨i=15∨i=16∨i=17∨i=18∨i=19∨i=20∨i=21∨i=22∨i=23) with rfl | rfl | rfl | rfl | rfl | rfl | rfl | rfl | rfl | rfl | rfl | rfl | rfl | rfl | rfl | rfl | rfl | rfl | rfl | rfl | rfl | rfl | rfl | rfl
        all_goals (clear hi;intro o ho lz fz w' A ⟨hv,hn,b6,off6,c6,hu,hr⟩ hli ha hA K hK;obtain rfl:=Option.some.inj ho;clear ho)
        · have g4:=slot_out hA 4 _ (by decide) (by decide) rfl
          simp only [List.getD_cons_succ,List.getD_cons_zero] at g4
          have gg4:=slot_get g4
          rw [if_pos (by rfl)]
          have hF:=hK (.pointer (some ⟨Z,0,none⟩)) w' ⟨hv.step 0 55 _ (by simp),hn.early 0 (by decide),b6,off6,c6,hu.step 0 55 _ (by simp),hr.still 0 (by decide)⟩
          clear hv hu hn hr ha hK hA hli
          go_simp
          exact hF
        · have g1:=slot_out hA 1 _ (by decide) (by decide) rfl
          simp only [List.getD_cons_succ,List.getD_cons_zero] at g1
          have gg1:=slot_get g1
          rw [if_pos (by rfl)]
          have hF:=hK (.pointer (some ⟨w.heap.size,1,none⟩)) w' ⟨hv.step 1 56 _ (by simp),hn.early 1 (by decide),b6,off6,c6,hu.step 1 56 _ (by simp),hr.still 1 (by decide)⟩
          clear hv hu hn hr ha hK hA hli
          go_simp
          exact hF
        · have g56:=slot_in hA 56 (by decide) (by decide) (hv.at 1 rfl (ha 1 (by simp [aftersOf,Region.binds])))
          have gg56:=slot_get g56
          rw [if_pos (by rfl)]
          obtain ⟨⟨kx0,kx1,kx2⟩,⟨kg0,kg1,kg2,kg3,kg4,kg5⟩,kc3,-⟩:=HKP.out w' (hr.imp (fun W e=>by rw [e];exact HB.out.drew) (fun W h=>h.1))
          have hF:=hK (.slice (some ⟨b,off,none⟩) n2 c2) w' ⟨hv.step 2 57 _ (by simp),hn.early 2 (by decide),b6,off6,c6,hu.step 2 57 _ (by simp),hr.still 2 (by decide)⟩
          clear hv hu hn hr ha hK hA hli
          go_simp
          exact hF
        · have g5:=slot_out hA 5 _ (by decide) (by decide) rfl
          simp only [List.getD_cons_succ,List.getD_cons_zero] at g5
          have gg5:=slot_get g5
          rw [if_pos (by rfl)]
          have hF:=hK (.int .i64 (k:Int)) w' ⟨hv.step 3 58 _ (by simp),hn.early 3 (by decide),b6,off6,c6,hu.step 3 58 _ (by simp),hr.still 3 (by decide)⟩
          clear hv hu hn hr ha hK hA hli
          go_simp
          exact hF
        · have g57:=slot_in hA 57 (by decide) (by decide) (hv.at 2 rfl (ha 2 (by simp [aftersOf,Region.binds])))
          have g58:=slot_in hA 58 (by decide) (by decide) (hv.at 3 rfl (ha 3 (by simp [aftersOf,Region.binds])))
          have gg57:=slot_get g57
          have gg58:=slot_get g58
          rw [if_pos (by rfl)]
          have hF:=hK (.pointer (some ⟨b,off+k*6,none⟩)) w' ⟨hv.step 4 59 _ (by simp),hn.early 4 (by decide),b6,off6,c6,hu.step 4 59 _ (by simp),hr.still 4 (by decide)⟩
          clear hv hu hn hr ha hK hA hli
          go_simp
          exact hF
        · have g59:=slot_in hA 59 (by decide) (by decide) (hv.at 4 rfl (ha 4 (by simp [aftersOf,Region.binds])))
          have gg59:=slot_get g59
          rw [if_pos (by rfl)]
          obtain ⟨⟨kx0,kx1,kx2⟩,⟨kg0,kg1,kg2,kg3,kg4,kg5⟩,kc3,-⟩:=HKP.out w' (hr.imp (fun W e=>by rw [e];exact HB.out.drew) (fun W h=>h.1))
          have hF:=hK (.agg #[.int .i64 x.bef,.int .i64 x.hgt,.int .i64 x.view,Value.slice a' n' c',.int .i64 x.root,.int .i64 x.effs]) w' ⟨hv.step 5 60 _ (by simp),hn.early 5 (by decide),b6,off6,c6,hu.step 5 60 _ (by simp),hr.still 5 (by decide)⟩
          clear hv hu hn hr ha hK hA hli
          go_simp
          exact hF
        · have g55:=slot_in hA 55 (by decide) (by decide) (hv.at 0 rfl (ha 0 (by simp [aftersOf,Region.binds])))
          have g60:=slot_in hA 60 (by decide) (by decide) (hv.at 5 rfl (ha 5 (by simp [aftersOf,Region.binds])))
          have gg55:=slot_get g55
          have gg60:=slot_get g60
          rw [if_pos (by rfl)]
          clear hA
          go_simp
          have hw0:w'=wr.drew:=hr.1 hli
          subst hw0
          refine HPUT.out.mono ?_
          rintro e9 w9 ⟨rfl,hb7',-,-,hyes⟩
          have hb7:Below W1.heap.size W1 w9:=HB.out.trans ((Below.refl wr.heap.size wr).drew.mono HB.out.size |>.trans hb7')
          rw [HPB.out]
          obtain ⟨v2',v3',ts',hix7⟩:=hyes HPB.out
          have hq2:=hix7.box.c2
          obtain ⟨a6,n6,c69,rfl,r6,-,-⟩:=hix7.rd.bef
          obtain rfl:k+1=n6:=HGD.out.2.symm.trans r6.1
          obtain ⟨b69,off69,rfl,hc6⟩:=r6.2.2.1 (by omega)
          have hc6k:=hc6 k (by omega)
          rw [HGD.out.1] at hc6k
          have hS9:Below W1.heap.size W1 w9∧w9.cell? ⟨Z,2,none⟩=some (.slice (some ⟨b69,off69,none⟩) (k+1) c69)∧w9.cell? ⟨b69,off69+k,none⟩=some (.int .i64 fn)∧∃ v2' ts',TrIx w9 W1.heap.size Z m tTreP u1 v2' (.slice (some ⟨b69,off69,none⟩) (k+1) c69) ((t.pre k).add x) ts':=⟨hb7,hq2,hc6k,_,_,hix7⟩
          exact hK (.bool true) w9 ⟨hv.step 6 61 _ (by simp),Late.call _ _,b69,off69,c69,(Vals.late hn hli (by simp)).step 6 61 _ (by simp),CallW.call hS9⟩
        · have g61:=slot_in hA 61 (by decide) (by decide) (hv.at 6 rfl (ha 6 (by simp [aftersOf,Region.binds])))
          have gg61:=slot_get g61
          rw [if_pos (by rfl)]
          have hF:=hK (.bool false) w' ⟨hv.step 7 62 _ (by simp),hn.late 7 6 (ha 6 (by simp [aftersOf,Region.binds])) (by decide),b6,off6,c6,hu.step 7 62 _ (by simp),hr.still 7 (by decide)⟩
          clear hv hu hn hr ha hK hA hli
          go_simp
          exact hF
        · have g62:=slot_in hA 62 (by decide) (by decide) (hu.at 0 rfl (ha 7 (by simp [aftersOf,Region.binds])))
          have gg62:=slot_get g62
          rw [if_pos (by rfl)]
          have hF:=hK (.bool false) w' ⟨hv.step 8 63 _ (by simp),hn.late 8 7 (ha 7 (by simp [aftersOf,Region.binds])) (by decide),b6,off6,c6,hu.step 8 63 _ (by simp),hr.still 8 (by decide)⟩
          clear hv hu hn hr ha hK hA hli
          go_simp
          exact hF
        · have g4:=slot_out hA 4 _ (by decide) (by decide) rfl
          simp only [List.getD_cons_succ,List.getD_cons_zero] at g4
          have g63:=slot_in hA 63 (by decide) (by decide) (hu.at 1 rfl (ha 8 (by simp [aftersOf,Region.binds])))
          have gg4:=slot_get g4
          have gg63:=slot_get g63
          rw [if_pos (by simp [Region.wanted,yielded,slot_bool g63])]
          have hF:=hK (.pointer (some ⟨Z,0,none⟩)) w' ⟨hv.step 9 64 _ (by simp),hn.late 9 8 (ha 8 (by simp [aftersOf,Region.binds])) (by decide),b6,off6,c6,hu.step 9 64 _ (by simp),hr.still 9 (by decide)⟩
          clear hv hu hn hr ha hK hA hli
          go_simp
          exact hF
        · have g64:=slot_in hA 64 (by decide) (by decide) (hu.at 2 rfl (ha 9 (by simp [aftersOf,Region.binds])))
          have g63:=slot_in hA 63 (by decide) (by decide) (hu.at 1 rfl (ha 8 (by simp [aftersOf,Region.binds])))
          have gg64:=slot_get g64
          have gg63:=slot_get g63
          rw [if_pos (by simp [Region.wanted,yielded,slot_bool g63])]
          have hF:=hK (.pointer (some ⟨Z,0,none⟩)) w' ⟨hv.step 10 65 _ (by simp),hn.late 10 9 (ha 9 (by simp [aftersOf,Region.binds])) (by decide),b6,off6,c6,hu.step 10 65 _ (by simp),hr.still 10 (by decide)⟩
          clear hv hu hn hr ha hK hA hli
          go_simp
          exact hF
        · have g65:=slot_in hA 65 (by decide) (by decide) (hu.at 3 rfl (ha 10 (by simp [aftersOf,Region.binds])))
          have g63:=slot_in hA 63 (by decide) (by decide) (hu.at 1 rfl (ha 8 (by simp [aftersOf,Region.binds])))
          have gg65:=slot_get g65
          have gg63:=slot_get g63
          rw [if_pos (by simp [Region.wanted,yielded,slot_bool g63])]
          have hF:=hK (.pointer (some ⟨Z,0,none⟩)) w' ⟨hv.step 11 66 _ (by simp),hn.late 11 10 (ha 10 (by simp [aftersOf,Region.binds])) (by decide),b6,off6,c6,hu.step 11 66 _ (by simp),hr.still 11 (by decide)⟩
          clear hv hu hn hr ha hK hA hli
          go_simp
          exact hF
        · have g66:=slot_in hA 66 (by decide) (by decide) (hu.at 4 rfl (ha 11 (by simp [aftersOf,Region.binds])))
          have g63:=slot_in hA 63 (by decide) (by decide) (hu.at 1 rfl (ha 8 (by simp [aftersOf,Region.binds])))
          have gg66:=slot_get g66
          have gg63:=slot_get g63
          rw [if_pos (by simp [Region.wanted,yielded,slot_bool g63])]
          have hF:=hK (.pointer (some ⟨Z,2,none⟩)) w' ⟨hv.step 12 67 _ (by simp),hn.late 12 11 (ha 11 (by simp [aftersOf,Region.binds])) (by decide),b6,off6,c6,hu.step 12 67 _ (by simp),hr.still 12 (by decide)⟩
          clear hv hu hn hr ha hK hA hli
          go_simp
          exact hF
        · have g67:=slot_in hA 67 (by decide) (by decide) (hu.at 5 rfl (ha 12 (by simp [aftersOf,Region.binds])))
          have g63:=slot_in hA 63 (by decide) (by decide) (hu.at 1 rfl (ha 8 (by simp [aftersOf,Region.binds])))
          have gg67:=slot_get g67
          have gg63:=slot_get g63
          rw [if_pos (by simp [Region.wanted,yielded,slot_bool g63])]
          have h6:lz 6=true:=hn.yes (ha 12 (by simp [aftersOf,Region.binds])) (by decide)
          obtain ⟨-,kz2,kz6,-⟩:=hr.2 h6
          have hF:=hK (.slice (some ⟨b6,off6,none⟩) (k+1) c6) w' ⟨hv.step 13 68 _ (by simp),hn.late 13 12 (ha 12 (by simp [aftersOf,Region.binds])) (by decide),b6,off6,c6,hu.step 13 68 _ (by simp),hr.still 13 (by decide)⟩
          clear hv hu hn hr ha hK hA hli
          go_simp
          exact hF
        · have g5:=slot_out hA 5 _ (by decide) (by decide) rfl
          simp only [List.getD_cons_succ,List.getD_cons_zero] at g5
          have g63:=slot_in hA 63 (by decide) (by decide) (hu.at 1 rfl (ha 8 (by simp [aftersOf,Region.binds])))
          have gg5:=slot_get g5
          have gg63:=slot_get g63
          rw [if_pos (by simp [Region.wanted,yielded,slot_bool g63])]
          have hF:=hK (.int .i64 (k:Int)) w' ⟨hv.step 14 69 _ (by simp),hn.late 14 8 (ha 8 (by simp [aftersOf,Region.binds])) (by decide),b6,off6,c6,hu.step 14 69 _ (by simp),hr.still 14 (by decide)⟩
          clear hv hu hn hr ha hK hA hli
          go_simp
          exact hF
        · have g68:=slot_in hA 68 (by decide) (by decide) (hu.at 6 rfl (ha 13 (by simp [aftersOf,Region.binds])))
          have g69:=slot_in hA 69 (by decide) (by decide) (hu.at 7 rfl (ha 14 (by simp [aftersOf,Region.binds])))
          have g63:=slot_in hA 63 (by decide) (by decide) (hu.at 1 rfl (ha 8 (by simp [aftersOf,Region.binds])))
          have gg68:=slot_get g68
          have gg69:=slot_get g69
          have gg63:=slot_get g63
          rw [if_pos (by simp [Region.wanted,yielded,slot_bool g63])]
          have hF:=hK (.pointer (some ⟨b6,off6+k,none⟩)) w' ⟨hv.step 15 70 _ (by simp),hn.late 15 13 (ha 13 (by simp [aftersOf,Region.binds])) (by decide),b6,off6,c6,hu.step 15 70 _ (by simp),hr.still 15 (by decide)⟩
          clear hv hu hn hr ha hK hA hli
          go_simp
          exact hF
        · have g70:=slot_in hA 70 (by decide) (by decide) (hu.at 8 rfl (ha 15 (by simp [aftersOf,Region.binds])))
          have g63:=slot_in hA 63 (by decide) (by decide) (hu.at 1 rfl (ha 8 (by simp [aftersOf,Region.binds])))
          have gg70:=slot_get g70
          have gg63:=slot_get g63
          rw [if_pos (by simp [Region.wanted,yielded,slot_bool g63])]
          have h6:lz 6=true:=hn.yes (ha 15 (by simp [aftersOf,Region.binds])) (by decide)
          obtain ⟨-,kz2,kz6,-⟩:=hr.2 h6
          have hF:=hK (.int .i64 fn) w' ⟨hv.step 16 71 _ (by simp),hn.late 16 15 (ha 15 (by simp [aftersOf,Region.binds])) (by decide),b6,off6,c6,hu.step 16 71 _ (by simp),hr.still 16 (by decide)⟩
          clear hv hu hn hr ha hK hA hli
          go_simp
          exact hF
        · have g1:=slot_out hA 1 _ (by decide) (by decide) rfl
          simp only [List.getD_cons_succ,List.getD_cons_zero] at g1
          have g63:=slot_in hA 63 (by decide) (by decide) (hu.at 1 rfl (ha 8 (by simp [aftersOf,Region.binds])))
          have gg1:=slot_get g1
          have gg63:=slot_get g63
          rw [if_pos (by simp [Region.wanted,yielded,slot_bool g63])]
          have hF:=hK (.pointer (some ⟨w.heap.size,2,none⟩)) w' ⟨hv.step 17 72 _ (by simp),hn.late 17 8 (ha 8 (by simp [aftersOf,Region.binds])) (by decide),b6,off6,c6,hu.step 17 72 _ (by simp),hr.still 17 (by decide)⟩
          clear hv hu hn hr ha hK hA hli
          go_simp
          exact hF
        · have g72:=slot_in hA 72 (by decide) (by decide) (hu.at 10 rfl (ha 17 (by simp [aftersOf,Region.binds])))
          have g63:=slot_in hA 63 (by decide) (by decide) (hu.at 1 rfl (ha 8 (by simp [aftersOf,Region.binds])))
          have gg72:=slot_get g72
          have gg63:=slot_get g63
          rw [if_pos (by simp [Region.wanted,yielded,slot_bool g63])]
          obtain ⟨⟨kx0,kx1,kx2⟩,⟨kg0,kg1,kg2,kg3,kg4,kg5⟩,kc3,-⟩:=HKP.out w' (hr.imp (fun W e=>by rw [e];exact HB.out.drew) (fun W h=>h.1))
          have hF:=hK (.slice (some ⟨b3,off3,none⟩) n2 c3) w' ⟨hv.step 18 73 _ (by simp),hn.late 18 17 (ha 17 (by simp [aftersOf,Region.binds])) (by decide),b6,off6,c6,hu.step 18 73 _ (by simp),hr.still 18 (by decide)⟩
          clear hv hu hn hr ha hK hA hli
          go_simp
          exact hF
        · have g5:=slot_out hA 5 _ (by decide) (by decide) rfl
          simp only [List.getD_cons_succ,List.getD_cons_zero] at g5
          have g63:=slot_in hA 63 (by decide) (by decide) (hu.at 1 rfl (ha 8 (by simp [aftersOf,Region.binds])))
          have gg5:=slot_get g5
          have gg63:=slot_get g63
          rw [if_pos (by simp [Region.wanted,yielded,slot_bool g63])]
          have hF:=hK (.int .i64 (k:Int)) w' ⟨hv.step 19 74 _ (by simp),hn.late 19 8 (ha 8 (by simp [aftersOf,Region.binds])) (by decide),b6,off6,c6,hu.step 19 74 _ (by simp),hr.still 19 (by decide)⟩
          clear hv hu hn hr ha hK hA hli
          go_simp
          exact hF
        · have g73:=slot_in hA 73 (by decide) (by decide) (hu.at 11 rfl (ha 18 (by simp [aftersOf,Region.binds])))
          have g74:=slot_in hA 74 (by decide) (by decide) (hu.at 12 rfl (ha 19 (by simp [aftersOf,Region.binds])))
          have g63:=slot_in hA 63 (by decide) (by decide) (hu.at 1 rfl (ha 8 (by simp [aftersOf,Region.binds])))
          have gg73:=slot_get g73
          have gg74:=slot_get g74
          have gg63:=slot_get g63
          rw [if_pos (by simp [Region.wanted,yielded,slot_bool g63])]
          have hF:=hK (.pointer (some ⟨b3,off3+k,none⟩)) w' ⟨hv.step 20 75 _ (by simp),hn.late 20 18 (ha 18 (by simp [aftersOf,Region.binds])) (by decide),b6,off6,c6,hu.step 20 75 _ (by simp),hr.still 20 (by decide)⟩
          clear hv hu hn hr ha hK hA hli
          go_simp
          exact hF
        · have g75:=slot_in hA 75 (by decide) (by decide) (hu.at 13 rfl (ha 20 (by simp [aftersOf,Region.binds])))
          have g63:=slot_in hA 63 (by decide) (by decide) (hu.at 1 rfl (ha 8 (by simp [aftersOf,Region.binds])))
          have gg75:=slot_get g75
          have gg63:=slot_get g63
          rw [if_pos (by simp [Region.wanted,yielded,slot_bool g63])]
          obtain ⟨⟨kx0,kx1,kx2⟩,⟨kg0,kg1,kg2,kg3,kg4,kg5⟩,kc3,-⟩:=HKP.out w' (hr.imp (fun W e=>by rw [e];exact HB.out.drew) (fun W h=>h.1))
          have hF:=hK (.int .i64 f) w' ⟨hv.step 21 76 _ (by simp),hn.late 21 20 (ha 20 (by simp [aftersOf,Region.binds])) (by decide),b6,off6,c6,hu.step 21 76 _ (by simp),hr.still 21 (by decide)⟩
          clear hv hu hn hr ha hK hA hli
          go_simp
          exact hF
        · have g71:=slot_in hA 71 (by decide) (by decide) (hu.at 9 rfl (ha 16 (by simp [aftersOf,Region.binds])))
          have g76:=slot_in hA 76 (by decide) (by decide) (hu.at 14 rfl (ha 21 (by simp [aftersOf,Region.binds])))
          have g63:=slot_in hA 63 (by decide) (by decide) (hu.at 1 rfl (ha 8 (by simp [aftersOf,Region.binds])))
          have gg71:=slot_get g71
          have gg76:=slot_get g76
          have gg63:=slot_get g63
          rw [if_pos (by simp [Region.wanted,yielded,slot_bool g63])]
          have hF:=hK (.bool true) w' ⟨hv.step 22 77 _ (by simp),hn.late 22 16 (ha 16 (by simp [aftersOf,Region.binds])) (by decide),b6,off6,c6,hu.step 22 77 _ (by simp),hr.still 22 (by decide)⟩
          clear hv hu hn hr ha hK hA hli
          go_simp
          exact hF
        · have g63:=slot_in hA 63 (by decide) (by decide) (hu.at 1 rfl (ha 8 (by simp [aftersOf,Region.binds])))
          have g77:=slot_in hA 77 (by decide) (by decide) (hu.at 15 rfl (ha 22 (by simp [aftersOf,Region.binds])))
          have gg63:=slot_get g63
          have gg77:=slot_get g77
          rw [if_pos (by rfl)]
          have hF:=hK (.bool true) w' ⟨hv.step 23 78 _ (by simp),hn.late 23 8 (ha 8 (by simp [aftersOf,Region.binds])) (by decide),b6,off6,c6,hu.step 23 78 _ (by simp),hr.still 23 (by decide)⟩
          clear hv hu hn hr ha hK hA hli
          go_simp
          exact hF
      · intro lz fz w6 hall ⟨hv,hn,b6,off6,c6,hu,hq⟩
        have h78:=hu.at 16 rfl (hall 23 (by decide))
        have hSR:=hq.2 (hall 6 (by decide))
        clear hv hu hn hq hall
        simp only [mixF,List.contains_cons,List.contains_nil]
        go_simp
        have HBF:=Lib.hid (HK.out _ hSR.1).2.2.2.2
        go_wp2_with fail
        go_ret2
        exact ixOf_no HBF.out HR.out
     have e6:(fn != f)=false:=by simp [h6]
     have HN2:=Lib.hid (HNX1.out h6)
     have i3:(k:Int) < ((k+1:Nat):Int):=by omega
     have i4:(k:Int) < (k:Int)+1:=by omega
     clear h6
     go_upto_region 9 with (fail)
     refine wp_region_light (by kernel_rfl) (fun lz fz wz=>Vals [(0,55,(.pointer (some ⟨Z,0,none⟩))),(1,56,(.pointer (some ⟨w.heap.size,1,none⟩))),(2,57,(.slice (some ⟨b,off,none⟩) n2 c2)),(3,58,(.int .i64 (k:Int))),(4,59,(.pointer (some ⟨b,off+k*6,none⟩))),(5,60,(.agg #[.int .i64 x.bef,.int .i64 x.hgt,.int .i64 x.view,Value.slice a' n' c',.int .i64 x.root,.int .i64 x.effs])),(6,61,(.bool true))] lz fz∧Late 6 lz∧∃ (b6 off6 c6:Nat),Vals [(7,62,(.bool false)),(8,63,(.bool false)),(9,64,(.pointer (some ⟨Z,0,none⟩))),(10,65,(.pointer (some ⟨Z,0,none⟩))),(11,66,(.pointer (some ⟨Z,0,none⟩))),(12,67,(.pointer (some ⟨Z,2,none⟩))),(13,68,(.slice (some ⟨b6,off6,none⟩) (k+1) c6)),(14,69,(.int .i64 (k:Int))),(15,70,(.pointer (some ⟨b6,off6+k,none⟩))),(16,71,(.int .i64 fn)),(17,72,(.pointer (some ⟨w.heap.size,2,none⟩))),(18,73,(.slice (some ⟨b3,off3,none⟩) n2 c3)),(19,74,(.int .i64 (k:Int))),(20,75,(.pointer (some ⟨b3,off3+k,none⟩))),(21,76,(.int .i64 f)),(22,77,(.bool false)),(23,78,(.bool false))] lz fz∧CallW 6 (fun W=>W=wr.drew) (fun W=>Below W1.heap.size W1 W∧W.cell? ⟨Z,2,none⟩=some (.slice (some ⟨b6,off6,none⟩) (k+1) c6)∧W.cell? ⟨b6,off6+k,none⟩=some (.int .i64 fn)∧∃ v2' ts',TrIx W W1.heap.size Z m tTreP u1 v2' (.slice (some ⟨b6,off6,none⟩) (k+1) c6) ((t.pre k).add x) ts') lz wz) 80 rfl [55,56,57,58,59,60,61,62,63,64,65,66,67,68,69,70,71,72,73,74,75,76,77,78] (by kernel_rfl) (by kernel_rfl) (by kernel_rfl) (fun f=>⟨Vals.nothing _ f,Late.nothing _,default,default,default,Vals.nothing _ f,CallW.nothing (rfl)⟩) ?_ ?_
     · intro i hi
       rcases (by have:i < 24:=hi;omega:i=0∨i=1∨i=2∨i=3∨i=4∨i=5∨i=6∨i=7∨i=8∨i=9∨i=10∨i=11∨i=12∨i=13∨i=14∨i=15∨i=16∨i=17∨i=18∨i=19∨i=20∨i=21∨i=22∨i=23) with rfl | rfl | rfl | rfl | rfl | rfl | rfl | rfl | rfl | rfl | rfl | rfl | rfl | rfl | rfl | rfl | rfl | rfl | rfl | rfl | rfl | rfl | rfl | rfl
       all_goals (clear hi;intro o ho lz fz w' A ⟨hv,hn,b6,off6,c6,hu,hr⟩ hli ha hA K hK;obtain rfl:=Option.some.inj ho;clear ho)
       · have g4:=slot_out hA 4 _ (by decide) (by decide) rfl
         simp only [List.getD_cons_succ,List.getD_cons_zero] at g4
         have gg4:=slot_get g4
         rw [if_pos (by rfl)]
         have hF:=hK (.pointer (some ⟨Z,0,none⟩)) w' ⟨hv.step 0 55 _ (by simp),hn.early 0 (by decide),b6,off6,c6,hu.step 0 55 _ (by simp),hr.still 0 (by decide)⟩
         clear hv hu hn hr ha hK hA hli
         go_simp
         exact hF
       · have g1:=slot_out hA 1 _ (by decide) (by decide) rfl
         simp only [List.getD_cons_succ,List.getD_cons_zero] at g1
         have gg1:=slot_get g1
         rw [if_pos (by rfl)]
         have hF:=hK (.pointer (some ⟨w.heap.size,1,none⟩)) w' ⟨hv.step 1 56 _ (by simp),hn.early 1 (by decide),b6,off6,c6,hu.step 1 56 _ (by simp),hr.still 1 (by decide)⟩
         clear hv hu hn hr ha hK hA hli
         go_simp
         exact hF
       · have g56:=slot_in hA 56 (by decide) (by decide) (hv.at 1 rfl (ha 1 (by simp [aftersOf,Region.binds])))
         have gg56:=slot_get g56
         rw [if_pos (by rfl)]
         obtain ⟨⟨kx0,kx1,kx2⟩,⟨kg0,kg1,kg2,kg3,kg4,kg5⟩,kc3,-⟩:=HKP.out w' (hr.imp (fun W e=>by rw [e];exact HB.out.drew) (fun W h=>h.1))
         have hF:=hK (.slice (some ⟨b,off,none⟩) n2 c2) w' ⟨hv.step 2 57 _ (by simp),hn.early 2 (by decide),b6,off6,c6,hu.step 2 57 _ (by simp),hr.still 2 (by decide)⟩
         clear hv hu hn hr ha hK hA hli
         go_simp
         exact hF
       · have g5:=slot_out hA 5 _ (by decide) (by decide) rfl
         simp only [List.getD_cons_succ,List.getD_cons_zero] at g5
         have gg5:=slot_get g5
         rw [if_pos (by rfl)]
         have hF:=hK (.int .i64 (k:Int)) w' ⟨hv.step 3 58 _ (by simp),hn.early 3 (by decide),b6,off6,c6,hu.step 3 58 _ (by simp),hr.still 3 (by decide)⟩
         clear hv hu hn hr ha hK hA hli
         go_simp
         exact hF
       · have g57:=slot_in hA 57 (by decide) (by decide) (hv.at 2 rfl (ha 2 (by simp [aftersOf,Region.binds])))
         have g58:=slot_in hA 58 (by decide) (by decide) (hv.at 3 rfl (ha 3 (by simp [aftersOf,Region.binds])))
         have gg57:=slot_get g57
         have gg58:=slot_get g58
         rw [if_pos (by rfl)]
         have hF:=hK (.pointer (some ⟨b,off+k*6,none⟩)) w' ⟨hv.step 4 59 _ (by simp),hn.early 4 (by decide),b6,off6,c6,hu.step 4 59 _ (by simp),hr.still 4 (by decide)⟩
         clear hv hu hn hr ha hK hA hli
         go_simp
         exact hF
       · have g59:=slot_in hA 59 (by decide) (by decide) (hv.at 4 rfl (ha 4 (by simp [aftersOf,Region.binds])))
         have gg59:=slot_get g59
         rw [if_pos (by rfl)]
         obtain ⟨⟨kx0,kx1,kx2⟩,⟨kg0,kg1,kg2,kg3,kg4,kg5⟩,kc3,-⟩:=HKP.out w' (hr.imp (fun W e=>by rw [e];exact HB.out.drew) (fun W h=>h.1))
         have hF:=hK (.agg #[.int .i64 x.bef,.int .i64 x.hgt,.int .i64 x.view,Value.slice a' n' c',.int .i64 x.root,.int .i64 x.effs]) w' ⟨hv.step 5 60 _ (by simp),hn.early 5 (by decide),b6,off6,c6,hu.step 5 60 _ (by simp),hr.still 5 (by decide)⟩
         clear hv hu hn hr ha hK hA hli
         go_simp
         exact hF
       · have g55:=slot_in hA 55 (by decide) (by decide) (hv.at 0 rfl (ha 0 (by simp [aftersOf,Region.binds])))
         have g60:=slot_in hA 60 (by decide) (by decide) (hv.at 5 rfl (ha 5 (by simp [aftersOf,Region.binds])))
         have gg55:=slot_get g55
         have gg60:=slot_get g60
         rw [if_pos (by rfl)]
         clear hA
         go_simp
         have hw0:w'=wr.drew:=hr.1 hli
         subst hw0
         refine HPUT.out.mono ?_
         rintro e9 w9 ⟨rfl,hb7',-,-,hyes⟩
         have hb7:Below W1.heap.size W1 w9:=HB.out.trans ((Below.refl wr.heap.size wr).drew.mono HB.out.size |>.trans hb7')
         rw [HPB.out]
         obtain ⟨v2',v3',ts',hix7⟩:=hyes HPB.out
         have hq2:=hix7.box.c2
         obtain ⟨a6,n6,c69,rfl,r6,-,-⟩:=hix7.rd.bef
         obtain rfl:k+1=n6:=HGD.out.2.symm.trans r6.1
         obtain ⟨b69,off69,rfl,hc6⟩:=r6.2.2.1 (by omega)
         have hc6k:=hc6 k (by omega)
         rw [HGD.out.1] at hc6k
         have hS9:Below W1.heap.size W1 w9∧w9.cell? ⟨Z,2,none⟩=some (.slice (some ⟨b69,off69,none⟩) (k+1) c69)∧w9.cell? ⟨b69,off69+k,none⟩=some (.int .i64 fn)∧∃ v2' ts',TrIx w9 W1.heap.size Z m tTreP u1 v2' (.slice (some ⟨b69,off69,none⟩) (k+1) c69) ((t.pre k).add x) ts':=⟨hb7,hq2,hc6k,_,_,hix7⟩
         exact hK (.bool true) w9 ⟨hv.step 6 61 _ (by simp),Late.call _ _,b69,off69,c69,(Vals.late hn hli (by simp)).step 6 61 _ (by simp),CallW.call hS9⟩
       · have g61:=slot_in hA 61 (by decide) (by decide) (hv.at 6 rfl (ha 6 (by simp [aftersOf,Region.binds])))
         have gg61:=slot_get g61
         rw [if_pos (by rfl)]
         have hF:=hK (.bool false) w' ⟨hv.step 7 62 _ (by simp),hn.late 7 6 (ha 6 (by simp [aftersOf,Region.binds])) (by decide),b6,off6,c6,hu.step 7 62 _ (by simp),hr.still 7 (by decide)⟩
         clear hv hu hn hr ha hK hA hli
         go_simp
         exact hF
       · have g62:=slot_in hA 62 (by decide) (by decide) (hu.at 0 rfl (ha 7 (by simp [aftersOf,Region.binds])))
         have gg62:=slot_get g62
         rw [if_pos (by rfl)]
         have hF:=hK (.bool false) w' ⟨hv.step 8 63 _ (by simp),hn.late 8 7 (ha 7 (by simp [aftersOf,Region.binds])) (by decide),b6,off6,c6,hu.step 8 63 _ (by simp),hr.still 8 (by decide)⟩
         clear hv hu hn hr ha hK hA hli
         go_simp
         exact hF
       · have g4:=slot_out hA 4 _ (by decide) (by decide) rfl
         simp only [List.getD_cons_succ,List.getD_cons_zero] at g4
         have g63:=slot_in hA 63 (by decide) (by decide) (hu.at 1 rfl (ha 8 (by simp [aftersOf,Region.binds])))
         have gg4:=slot_get g4
         have gg63:=slot_get g63
         rw [if_pos (by simp [Region.wanted,yielded,slot_bool g63])]
         have hF:=hK (.pointer (some ⟨Z,0,none⟩)) w' ⟨hv.step 9 64 _ (by simp),hn.late 9 8 (ha 8 (by simp [aftersOf,Region.binds])) (by decide),b6,off6,c6,hu.step 9 64 _ (by simp),hr.still 9 (by decide)⟩
         clear hv hu hn hr ha hK hA hli
         go_simp
         exact hF
       · have g64:=slot_in hA 64 (by decide) (by decide) (hu.at 2 rfl (ha 9 (by simp [aftersOf,Region.binds])))
         have g63:=slot_in hA 63 (by decide) (by decide) (hu.at 1 rfl (ha 8 (by simp [aftersOf,Region.binds])))
         have gg64:=slot_get g64
         have gg63:=slot_get g63
         rw [if_pos (by simp [Region.wanted,yielded,slot_bool g63])]
         have hF:=hK (.pointer (some ⟨Z,0,none⟩)) w' ⟨hv.step 10 65 _ (by simp),hn.late 10 9 (ha 9 (by simp [aftersOf,Region.binds])) (by decide),b6,off6,c6,hu.step 10 65 _ (by simp),hr.still 10 (by decide)⟩
         clear hv hu hn hr ha hK hA hli
         go_simp
         exact hF
       · have g65:=slot_in hA 65 (by decide) (by decide) (hu.at 3 rfl (ha 10 (by simp [aftersOf,Region.binds])))
         have g63:=slot_in hA 63 (by decide) (by decide) (hu.at 1 rfl (ha 8 (by simp [aftersOf,Region.binds])))
         have gg65:=slot_get g65
         have gg63:=slot_get g63
         rw [if_pos (by simp [Region.wanted,yielded,slot_bool g63])]
         have hF:=hK (.pointer (some ⟨Z,0,none⟩)) w' ⟨hv.step 11 66 _ (by simp),hn.late 11 10 (ha 10 (by simp [aftersOf,Region.binds])) (by decide),b6,off6,c6,hu.step 11 66 _ (by simp),hr.still 11 (by decide)⟩
         clear hv hu hn hr ha hK hA hli
         go_simp
         exact hF
       · have g66:=slot_in hA 66 (by decide) (by decide) (hu.at 4 rfl (ha 11 (by simp [aftersOf,Region.binds])))
         have g63:=slot_in hA 63 (by decide) (by decide) (hu.at 1 rfl (ha 8 (by simp [aftersOf,Region.binds])))
         have gg66:=slot_get g66
         have gg63:=slot_get g63
         rw [if_pos (by simp [Region.wanted,yielded,slot_bool g63])]
         have hF:=hK (.pointer (some ⟨Z,2,none⟩)) w' ⟨hv.step 12 67 _ (by simp),hn.late 12 11 (ha 11 (by simp [aftersOf,Region.binds])) (by decide),b6,off6,c6,hu.step 12 67 _ (by simp),hr.still 12 (by decide)⟩
         clear hv hu hn hr ha hK hA hli
         go_simp
         exact hF
       · have g67:=slot_in hA 67 (by decide) (by decide) (hu.at 5 rfl (ha 12 (by simp [aftersOf,Region.binds])))
         have g63:=slot_in hA 63 (by decide) (by decide) (hu.at 1 rfl (ha 8 (by simp [aftersOf,Region.binds])))
         have gg67:=slot_get g67
         have gg63:=slot_get g63
         rw [if_pos (by simp [Region.wanted,yielded,slot_bool g63])]
         have h6:lz 6=true:=hn.yes (ha 12 (by simp [aftersOf,Region.binds])) (by decide)
         obtain ⟨-,kz2,kz6,-⟩:=hr.2 h6
         have hF:=hK (.slice (some ⟨b6,off6,none⟩) (k+1) c6) w' ⟨hv.step 13 68 _ (by simp),hn.late 13 12 (ha 12 (by simp [aftersOf,Region.binds])) (by decide),b6,off6,c6,hu.step 13 68 _ (by simp),hr.still 13 (by decide)⟩
         clear hv hu hn hr ha hK hA hli
         go_simp
         exact hF
       · have g5:=slot_out hA 5 _ (by decide) (by decide) rfl
         simp only [List.getD_cons_succ,List.getD_cons_zero] at g5
         have g63:=slot_in hA 63 (by decide) (by decide) (hu.at 1 rfl (ha 8 (by simp [aftersOf,Region.binds])))
         have gg5:=slot_get g5
         have gg63:=slot_get g63
         rw [if_pos (by simp [Region.wanted,yielded,slot_bool g63])]
         have hF:=hK (.int .i64 (k:Int)) w' ⟨hv.step 14 69 _ (by simp),hn.late 14 8 (ha 8 (by simp [aftersOf,Region.binds])) (by decide),b6,off6,c6,hu.step 14 69 _ (by simp),hr.still 14 (by decide)⟩
         clear hv hu hn hr ha hK hA hli
         go_simp
         exact hF
       · have g68:=slot_in hA 68 (by decide) (by decide) (hu.at 6 rfl (ha 13 (by simp [aftersOf,Region.binds])))
         have g69:=slot_in hA 69 (by decide) (by decide) (hu.at 7 rfl (ha 14 (by simp [aftersOf,Region.binds])))
         have g63:=slot_in hA 63 (by decide) (by decide) (hu.at 1 rfl (ha 8 (by simp [aftersOf,Region.binds])))
         have gg68:=slot_get g68
         have gg69:=slot_get g69
         have gg63:=slot_get g63
         rw [if_pos (by simp [Region.wanted,yielded,slot_bool g63])]
         have hF:=hK (.pointer (some ⟨b6,off6+k,none⟩)) w' ⟨hv.step 15 70 _ (by simp),hn.late 15 13 (ha 13 (by simp [aftersOf,Region.binds])) (by decide),b6,off6,c6,hu.step 15 70 _ (by simp),hr.still 15 (by decide)⟩
         clear hv hu hn hr ha hK hA hli
         go_simp
         exact hF
       · have g70:=slot_in hA 70 (by decide) (by decide) (hu.at 8 rfl (ha 15 (by simp [aftersOf,Region.binds])))
         have g63:=slot_in hA 63 (by decide) (by decide) (hu.at 1 rfl (ha 8 (by simp [aftersOf,Region.binds])))
         have gg70:=slot_get g70
         have gg63:=slot_get g63
         rw [if_pos (by simp [Region.wanted,yielded,slot_bool g63])]
         have h6:lz 6=true:=hn.yes (ha 15 (by simp [aftersOf,Region.binds])) (by decide)
         obtain ⟨-,kz2,kz6,-⟩:=hr.2 h6
         have hF:=hK (.int .i64 fn) w' ⟨hv.step 16 71 _ (by simp),hn.late 16 15 (ha 15 (by simp [aftersOf,Region.binds])) (by decide),b6,off6,c6,hu.step 16 71 _ (by simp),hr.still 16 (by decide)⟩
         clear hv hu hn hr ha hK hA hli
         go_simp
         exact hF
       · have g1:=slot_out hA 1 _ (by decide) (by decide) rfl
         simp only [List.getD_cons_succ,List.getD_cons_zero] at g1
         have g63:=slot_in hA 63 (by decide) (by decide) (hu.at 1 rfl (ha 8 (by simp [aftersOf,Region.binds])))
         have gg1:=slot_get g1
         have gg63:=slot_get g63
         rw [if_pos (by simp [Region.wanted,yielded,slot_bool g63])]
         have hF:=hK (.pointer (some ⟨w.heap.size,2,none⟩)) w' ⟨hv.step 17 72 _ (by simp),hn.late 17 8 (ha 8 (by simp [aftersOf,Region.binds])) (by decide),b6,off6,c6,hu.step 17 72 _ (by simp),hr.still 17 (by decide)⟩
         clear hv hu hn hr ha hK hA hli
         go_simp
         exact hF
       · have g72:=slot_in hA 72 (by decide) (by decide) (hu.at 10 rfl (ha 17 (by simp [aftersOf,Region.binds])))
         have g63:=slot_in hA 63 (by decide) (by decide) (hu.at 1 rfl (ha 8 (by simp [aftersOf,Region.binds])))
         have gg72:=slot_get g72
         have gg63:=slot_get g63
         rw [if_pos (by simp [Region.wanted,yielded,slot_bool g63])]
         obtain ⟨⟨kx0,kx1,kx2⟩,⟨kg0,kg1,kg2,kg3,kg4,kg5⟩,kc3,-⟩:=HKP.out w' (hr.imp (fun W e=>by rw [e];exact HB.out.drew) (fun W h=>h.1))
         have hF:=hK (.slice (some ⟨b3,off3,none⟩) n2 c3) w' ⟨hv.step 18 73 _ (by simp),hn.late 18 17 (ha 17 (by simp [aftersOf,Region.binds])) (by decide),b6,off6,c6,hu.step 18 73 _ (by simp),hr.still 18 (by decide)⟩
         clear hv hu hn hr ha hK hA hli
         go_simp
         exact hF
       · have g5:=slot_out hA 5 _ (by decide) (by decide) rfl
         simp only [List.getD_cons_succ,List.getD_cons_zero] at g5
         have g63:=slot_in hA 63 (by decide) (by decide) (hu.at 1 rfl (ha 8 (by simp [aftersOf,Region.binds])))
         have gg5:=slot_get g5
         have gg63:=slot_get g63
         rw [if_pos (by simp [Region.wanted,yielded,slot_bool g63])]
         have hF:=hK (.int .i64 (k:Int)) w' ⟨hv.step 19 74 _ (by simp),hn.late 19 8 (ha 8 (by simp [aftersOf,Region.binds])) (by decide),b6,off6,c6,hu.step 19 74 _ (by simp),hr.still 19 (by decide)⟩
         clear hv hu hn hr ha hK hA hli
         go_simp
         exact hF
       · have g73:=slot_in hA 73 (by decide) (by decide) (hu.at 11 rfl (ha 18 (by simp [aftersOf,Region.binds])))
         have g74:=slot_in hA 74 (by decide) (by decide) (hu.at 12 rfl (ha 19 (by simp [aftersOf,Region.binds])))
         have g63:=slot_in hA 63 (by decide) (by decide) (hu.at 1 rfl (ha 8 (by simp [aftersOf,Region.binds])))
         have gg73:=slot_get g73
         have gg74:=slot_get g74
         have gg63:=slot_get g63
         rw [if_pos (by simp [Region.wanted,yielded,slot_bool g63])]
         have hF:=hK (.pointer (some ⟨b3,off3+k,none⟩)) w' ⟨hv.step 20 75 _ (by simp),hn.late 20 18 (ha 18 (by simp [aftersOf,Region.binds])) (by decide),b6,off6,c6,hu.step 20 75 _ (by simp),hr.still 20 (by decide)⟩
         clear hv hu hn hr ha hK hA hli
         go_simp
         exact hF
       · have g75:=slot_in hA 75 (by decide) (by decide) (hu.at 13 rfl (ha 20 (by simp [aftersOf,Region.binds])))
         have g63:=slot_in hA 63 (by decide) (by decide) (hu.at 1 rfl (ha 8 (by simp [aftersOf,Region.binds])))
         have gg75:=slot_get g75
         have gg63:=slot_get g63
         rw [if_pos (by simp [Region.wanted,yielded,slot_bool g63])]
         obtain ⟨⟨kx0,kx1,kx2⟩,⟨kg0,kg1,kg2,kg3,kg4,kg5⟩,kc3,-⟩:=HKP.out w' (hr.imp (fun W e=>by rw [e];exact HB.out.drew) (fun W h=>h.1))
         have hF:=hK (.int .i64 f) w' ⟨hv.step 21 76 _ (by simp),hn.late 21 20 (ha 20 (by simp [aftersOf,Region.binds])) (by decide),b6,off6,c6,hu.step 21 76 _ (by simp),hr.still 21 (by decide)⟩
         clear hv hu hn hr ha hK hA hli
         go_simp
         exact hF
       · have g71:=slot_in hA 71 (by decide) (by decide) (hu.at 9 rfl (ha 16 (by simp [aftersOf,Region.binds])))
         have g76:=slot_in hA 76 (by decide) (by decide) (hu.at 14 rfl (ha 21 (by simp [aftersOf,Region.binds])))
         have g63:=slot_in hA 63 (by decide) (by decide) (hu.at 1 rfl (ha 8 (by simp [aftersOf,Region.binds])))
         have gg71:=slot_get g71
         have gg76:=slot_get g76
         have gg63:=slot_get g63
         rw [if_pos (by simp [Region.wanted,yielded,slot_bool g63])]
         have hF:=hK (.bool false) w' ⟨hv.step 22 77 _ (by simp),hn.late 22 16 (ha 16 (by simp [aftersOf,Region.binds])) (by decide),b6,off6,c6,hu.step 22 77 _ (by simp),hr.still 22 (by decide)⟩
         clear hv hu hn hr ha hK hA hli
         go_simp
         exact hF
       · have g63:=slot_in hA 63 (by decide) (by decide) (hu.at 1 rfl (ha 8 (by simp [aftersOf,Region.binds])))
         have g77:=slot_in hA 77 (by decide) (by decide) (hu.at 15 rfl (ha 22 (by simp [aftersOf,Region.binds])))
         have gg63:=slot_get g63
         have gg77:=slot_get g77
         rw [if_pos (by rfl)]
         have hF:=hK (.bool false) w' ⟨hv.step 23 78 _ (by simp),hn.late 23 8 (ha 8 (by simp [aftersOf,Region.binds])) (by decide),b6,off6,c6,hu.step 23 78 _ (by simp),hr.still 23 (by decide)⟩
         clear hv hu hn hr ha hK hA hli
         go_simp
         exact hF
     · intro lz fz w6 hall ⟨hv,hn,b6,off6,c6,hu,hq⟩
       have h78:=hu.at 16 rfl (hall 23 (by decide))
       have hSR:=hq.2 (hall 6 (by decide))
       clear hv hu hn hq hall
       simp only [mixF,List.contains_cons,List.contains_nil]
       go_simp
       obtain ⟨hb7,-,-,v2',ts',hix7⟩:=hSR
       have HB7:=Lib.hid hb7
       have HI7:=Lib.hid hix7
       clear hb7 hix7
       go_wp2_with fail
       go_roundw
       case rel=>exact ⟨k+1,by omega,by omega,by go_num,HN2.out.1,⟨_,_,_,_,by rw [← HN2.out.2];exact HI7.out⟩,HB7.out⟩
       case measure=>simp [intOf];omega
  · obtain rfl:k=n2:=by omega
    have HTF:Hid (treB t=true):=Lib.hid (by have:=HTB.out;rw [← HL2.out,pre_all (by rw [HL3.out,HL2.out])] at this;exact this)
    have HIF:Hid (TrIx wr W1.heap.size Z m tTreP u1 u2 u3 t ts):=Lib.hid (by have:=HIX.out;rw [← HL2.out,pre_all (by rw [HL3.out,HL2.out])] at this;exact this)
    obtain ⟨⟨x0,x1,x2,-⟩,-,-,-,hbf⟩:=HK.out wr HB.out
    have HBF:=Lib.hid hbf
    clear hbf
    go_wp2_with fail
    go_ret2
    exact ⟨HBF.out,fun e=>(by rw [HTF.out] at e;cases e),fun _=>⟨_,_,_,_,_,_,rfl,HIF.out.mono (Nat.le_of_lt HZW.out)⟩⟩
end Go.Proofs.YtalohgmgkjfdbaaGreat

/- The contracts of the model's BlockTreeValid and FindBlock (gen16/spectr2.py). -/
import Derived.Test.YtpnjgmgmakmgeaaGreatSpB

import Derived.Test.YtpnjgmgmakmgeaaGreatSpecS
import Derived.Deep.RegionHeld3
import Derived.Test.YtpnjgmgmakmgeaaGreatRegO
namespace Go.Proofs.YtpnjgmgmakmgeaaGreat
open Go.RowKit
set_option linter.unusedVariables false
set_option linter.unusedSimpArgs false
theorem tr_cell {B G o:Nat} {w w':World} {v:Value} (hb:Below B w w') (hG:G < B) (hc:w.cell? ⟨G,o,none⟩=some v):w'.cell? ⟨G,o,none⟩=some v:=(hb.cell (p:=⟨G,o,none⟩) hG).trans hc
theorem blockValid_specV (x:Blk) (a:Option Addr) (n c:Nat) (w:World) (h:RowA w a n x.acts) :
  Calls Tryz.prog 85 #[.agg #[.int .i64 x.bef,.int .i64 x.hgt,.int .i64 x.view,.slice a n c,.int .i64 x.root,.int .i64 x.effs]] w (BoolS (blkB x) w):=blockValid_spec x.bef x.hgt x.view x.root x.effs a n c x.acts w h
theorem l13SameBlock_specV (x y:Blk) (a a':Option Addr) (n c n' c':Nat) (w:World) (h:RowA w a n x.acts) (h':RowA w a' n' y.acts) :
  Calls Tryz.prog 87 #[.agg #[.int .i64 x.bef,.int .i64 x.hgt,.int .i64 x.view,.slice a n c,.int .i64 x.root,.int .i64 x.effs],.agg #[.int .i64 y.bef,.int .i64 y.hgt,.int .i64 y.view,.slice a' n' c',.int .i64 y.root,.int .i64 y.effs]] w (BoolB (decide (x=y)) w):=l13SameBlock_spec x.bef x.hgt x.view x.root x.effs y.bef y.hgt y.view y.root y.effs a a' n c n' c' x.acts y.acts w h h'
theorem tre_no_most {t:Tre} (h:¬ (1≤t.blocks.length∧t.blocks.length≤14)):treB t=false:=by
 rw [Bool.eq_false_iff];intro e;have g:=(treB_iff t).1 e;exact h ⟨g.one,g.most⟩
theorem tre_no_fir {t:Tre} {k:Nat} (hk:k < t.blocks.length) (h:¬ (blkB (blkAt t.blocks k)=true∧findL t.blocks (blkSumM (blkAt t.blocks k))=k)):treB t=false:=by
 rw [Bool.eq_false_iff];intro e;exact h ((firB_iff t k).1 (((treB_iff t).1 e).fir k hk))
theorem tre_no_beh {t:Tre} {k:Nat} (h0:0 < k) (hk:k < t.blocks.length) (h:¬ BehOk t k):treB t=false:=by
 rw [Bool.eq_false_iff];intro e;exact h (((treB_iff t).1 e).behind h0 hk)
def FirTo (t:Tre) (k:Nat):Prop:=∀ j,j < k→firB t j=true
def BehTo (t:Tre) (k:Nat):Prop:=∀ j,0 < j→j < k→behB t j=true
theorem FirTo.next {t:Tre} {k:Nat} (h:FirTo t k) (h1:blkB (blkAt t.blocks k)=true) (h2:findL t.blocks (blkSumM (blkAt t.blocks k))=k):FirTo t (k+1):=by
 intro j hj
 by_cases e:j=k
 · rw [e];exact (firB_iff t k).2 ⟨h1,h2⟩
 · exact h j (by omega)
theorem BehTo.next {t:Tre} {k:Nat} (h:BehTo t k) (h1:BehOk t k):BehTo t (k+1):=by
 intro j h0 hj
 by_cases e:j=k
 · rw [e];exact (behB_iff t k).2 h1
 · exact h j h0 (by omega)
theorem tre_end {t:Tre} (h0:storeB t.base=true) (h1:1≤t.blocks.length∧t.blocks.length≤14) (h2:t.bef.length=t.blocks.length) (h3:t.bef.getD 0 0 = -1) (h4:FirTo t t.blocks.length) (h5:BehTo t t.blocks.length):treB t=decide (blkAt t.blocks 0=firstM t.base):=by
 by_cases e:blkAt t.blocks 0=firstM t.base
 · rw [decide_eq_true e];exact (treB_iff t).2 ⟨h0,h1.1,h1.2,h2,h3,h4,h5,e⟩
 · rw [decide_eq_false e];exact tre_no_fst e
set_option maxRecDepth 100000 in
set_option maxHeartbeats 8000000 in
theorem blockTreeValid_spec (v1 v2 v3:Value) (t:Tre) (w:World) (h:TreRd w v1 v2 v3 t) :
  Calls Tryz.prog 24 #[.agg #[v1,v2,v3]] w (BoolB (treB t) w):=by
 obtain ⟨⟨a1,n1,c1,rfl,r1,z1,l1⟩,⟨a2,n2,c2,rfl,r2,z2,l2⟩,a3,n3,c3,rfl,r3,z3,l3⟩:=h
 have hl2:t.blocks.length=n2:=r2.1
 have hl3:t.bef.length=n3:=r3.1
 have hm2:=r2.2.1
 have hm3:=r3.2.1
 unfold maxLen at hm2 hm3
 have hb0:=(Below.refl w.heap.size w).alloc (Nat.le_refl _) (.cells #[.slice a1 n1 c1,.slice a2 n2 c2,.slice a3 n3 c3] 27)
 have hg0:=trAt_new w 27 (.slice a1 n1 c1) (.slice a2 n2 c2) (.slice a3 n3 c3)
 obtain ⟨W1,hW1⟩:∃ W1,W1=w.alloc (.cells #[.slice a1 n1 c1,.slice a2 n2 c2,.slice a3 n3 c3] 27):=⟨_,rfl⟩
 have HW1:=Lib.hid hW1
 rw [← hW1] at hb0 hg0
 clear hW1
 have HK:=Lib.hid (fun (W:World) (hb:Below W1.heap.size W1 W)=>(⟨hg0.below hb,(r1.below hb0).below hb,(r2.below hb0).below hb,(r3.below hb0).below hb,hb0.trans (hb.mono hb0.size)⟩:TrAt W w.heap.size (.slice a1 n1 c1) (.slice a2 n2 c2) (.slice a3 n3 c3)∧RowE W a1 n1 t.base∧RowBs W a2 n2 t.blocks∧RowI W a3 n3 t.bef∧Below w.heap.size w W))
 have HRD:=Lib.hid (fun (W:World) (hb:Below W1.heap.size W1 W)=>(⟨⟨a1,n1,c1,rfl,(r1.below hb0).below hb,z1,l1⟩,⟨a2,n2,c2,rfl,(r2.below hb0).below hb,z2,l2⟩,⟨a3,n3,c3,rfl,(r3.below hb0).below hb,z3,l3⟩⟩:TreRd W (.slice a1 n1 c1) (.slice a2 n2 c2) (.slice a3 n3 c3) t))
 clear hb0 hg0 r1 r2 r3 z1 z2 z3 l1 l2 l3
 have HL2:=Lib.hid hl2
 have HL3:=Lib.hid hl3
 clear hl2 hl3
 cases e0:storeB t.base with
 | false =>
  have HR:=Lib.hid (tre_no_base e0)
  go_enter Tryz.func24,Tryz.ntmps24
  go_upto_region 1 with (fail)
  rw [← HW1.out]
  clear HW1
  obtain ⟨⟨x0,x1,x2,-⟩,q1,q2,q3,hbf⟩:=HK.out W1 (Below.refl _ _)
  have HBF:=Lib.hid hbf
  have Q1:=Lib.hid q1
  clear q1 q2 q3 hbf
  go_wp2_with (first | (go_at_call 83;refine (storeValid_spec _ _ _ _ _ Q1.out).mono ?_;rintro e wq ⟨rfl,hdq⟩;have HDQ:=Lib.hid hdq;clear hdq;obtain ⟨⟨x0',x1',x2',-⟩,-,-,-,-⟩:=HK.out _ (HDQ.out.below _)) | (go_at_call 84;refine (l1In_spec _ _ _ _).mono ?_;rintro e w' ⟨rfl,rfl⟩))
  go_ret
  exact ⟨by rw [HR.out];rfl,HBF.out.trans ((HDQ.out.below _).mono HBF.out.size)⟩
 | true =>
 have H0:=Lib.hid e0
 by_cases h1:1≤n2∧n2≤14
 case neg =>
  have HR:=Lib.hid (tre_no_most (t:=t) (by rw [HL2.out];exact h1))
  have e1:inB (n2:Int) 1 14=false:=inB_no (by omega)
  clear h1
  go_enter Tryz.func24,Tryz.ntmps24
  go_upto_region 1 with (fail)
  rw [← HW1.out]
  clear HW1
  obtain ⟨⟨x0,x1,x2,-⟩,q1,q2,q3,hbf⟩:=HK.out W1 (Below.refl _ _)
  have HBF:=Lib.hid hbf
  have Q1:=Lib.hid q1
  clear q1 q2 q3 hbf
  go_wp2_with (first | (go_at_call 83;refine (storeValid_spec _ _ _ _ _ Q1.out).mono ?_;rintro e wq ⟨rfl,hdq⟩;have HDQ:=Lib.hid hdq;clear hdq;obtain ⟨⟨x0',x1',x2',-⟩,-,-,-,-⟩:=HK.out _ (HDQ.out.below _)) | (go_at_call 84;refine (l1In_spec _ _ _ _).mono ?_;rintro e w' ⟨rfl,rfl⟩))
  go_ret
  exact ⟨by rw [HR.out];rfl,HBF.out.trans ((HDQ.out.below _).mono HBF.out.size)⟩
 have e1:inB (n2:Int) 1 14=true:=inB_yes (by omega) (by omega)
 have H1:=Lib.hid h1
 have hn0:0 < n2:=h1.1
 clear h1
 by_cases h2:n3=n2
 case neg =>
  have HR:=Lib.hid (tre_no_len (t:=t) (by rw [HL2.out,HL3.out];exact h2))
  have e2:((n3:Int) != (n2:Int))=true:=by simp;omega
  clear h2
  go_enter Tryz.func24,Tryz.ntmps24
  go_upto_region 1 with (fail)
  rw [← HW1.out]
  clear HW1
  obtain ⟨⟨x0,x1,x2,-⟩,q1,q2,q3,hbf⟩:=HK.out W1 (Below.refl _ _)
  have HBF:=Lib.hid hbf
  have Q1:=Lib.hid q1
  clear q1 q2 q3 hbf
  go_wp2_with (first | (go_at_call 83;refine (storeValid_spec _ _ _ _ _ Q1.out).mono ?_;rintro e wq ⟨rfl,hdq⟩;have HDQ:=Lib.hid hdq;clear hdq;obtain ⟨⟨x0',x1',x2',-⟩,-,-,-,-⟩:=HK.out _ (HDQ.out.below _)) | (go_at_call 84;refine (l1In_spec _ _ _ _).mono ?_;rintro e w' ⟨rfl,rfl⟩))
  go_ret
  exact ⟨by rw [HR.out];rfl,HBF.out.trans ((HDQ.out.below _).mono HBF.out.size)⟩
 have e2:((n3:Int) != (n2:Int))=false:=by simp;omega
 have H2:=Lib.hid h2
 obtain rfl:=h2.symm
 obtain ⟨f0,hf0⟩:∃ f0,f0=t.bef.getD 0 0:=⟨_,rfl⟩
 have HF0:=Lib.hid hf0
 clear hf0
 by_cases h3:f0 = -1
 case neg =>
  have HR:=Lib.hid (tre_no_root (t:=t) (by rw [← HF0.out];exact h3))
  have e3:(f0 != -1)=true:=by simp [h3]
  clear h3
  go_enter Tryz.func24,Tryz.ntmps24
  go_upto_region 1 with (fail)
  rw [← HW1.out]
  clear HW1
  obtain ⟨⟨x0,x1,x2,-⟩,q1,q2,q3,hbf⟩:=HK.out W1 (Below.refl _ _)
  have HBF:=Lib.hid hbf
  have Q1:=Lib.hid q1
  clear q1 q2 q3 hbf
  obtain ⟨b3,off3,rfl,hc3⟩:=(HK.out W1 (Below.refl _ _)).2.2.2.1.2.2.1 hn0
  have hc30:=hc3 0 hn0
  simp only [Nat.add_zero] at hc30
  rw [← HF0.out] at hc30
  have HC3:=Lib.hid hc30
  clear hc3 hc30
  go_wp2_with (first | (go_at_call 83;refine (storeValid_spec _ _ _ _ _ Q1.out).mono ?_;rintro e wq ⟨rfl,hdq⟩;have hcq:=(hdq.cell _).trans HC3.out;have HDQ:=Lib.hid hdq;clear hdq;obtain ⟨⟨x0',x1',x2',-⟩,-,-,-,-⟩:=HK.out _ (HDQ.out.below _)) | (go_at_call 84;refine (l1In_spec _ _ _ _).mono ?_;rintro e w' ⟨rfl,rfl⟩))
  go_ret
  exact ⟨by rw [HR.out];rfl,HBF.out.trans ((HDQ.out.below _).mono HBF.out.size)⟩
 have e3:(f0 != -1)=false:=by simp [h3]
 have H3:Hid (t.bef.getD 0 0 = -1):=Lib.hid (by rw [← HF0.out];exact h3)
 clear h3
 go_enter Tryz.func24,Tryz.ntmps24
 go_upto_region 1 with (fail)
 rw [← HW1.out]
 clear HW1
 obtain ⟨⟨x0,x1,x2,-⟩,q1,q2,q3,hbf⟩:=HK.out W1 (Below.refl _ _)
 have HBF:=Lib.hid hbf
 have Q1:=Lib.hid q1
 clear q1 q2 q3 hbf
 obtain ⟨b3,off3,hae,hc3⟩:=(HK.out W1 (Below.refl _ _)).2.2.2.1.2.2.1 hn0
 have hc30:=hc3 0 hn0
 simp only [Nat.add_zero] at hc30
 rw [← HF0.out] at hc30
 have HC3:=Lib.hid hc30
 clear hc3 hc30
 subst hae
 go_wp2_with (first | (go_at_call 83;refine (storeValid_spec _ _ _ _ _ Q1.out).mono ?_;rintro e wq ⟨rfl,hdq⟩;have hcq:=(hdq.cell _).trans HC3.out;have HDQ:=Lib.hid hdq;clear hdq;obtain ⟨⟨x0',x1',x2',-⟩,-,-,-,-⟩:=HK.out _ (HDQ.out.below _)) | (go_at_call 84;refine (l1In_spec _ _ _ _).mono ?_;rintro e w' ⟨rfl,rfl⟩))
 have HBQ:=Lib.hid (HDQ.out.below W1.heap.size)
 clear x0 x1 x2 x0' x1' x2' hcq HC3 HBF Q1 e0 e1 e2 e3 HDQ
 go_loopw [3] (fun i wr=>∃ k:Nat,k≤n2∧i = .int .i64 k∧FirTo t k∧Below W1.heap.size W1 wr) (fun i _=>n2 - (intOf i).toNat)
 case atStart=>exact ⟨0,Nat.zero_le _,rfl,fun j hj=>absurd hj (by omega),HBQ.out⟩
 case round =>
  obtain ⟨k,hk,rfl,hto,hb⟩:=hrel
  have HTO:=Lib.hid hto
  have HB:=Lib.hid hb
  clear hto hb HBQ
  obtain ⟨⟨x0,x1,x2,-⟩,-,hr,-,hbf⟩:=HK.out wr HB.out
  by_cases hlt:k < n2
  · obtain ⟨b,off,rfl,hbk⟩:=hr.at k hlt
    have hkl:k < t.blocks.length:=by rw [HL2.out];exact hlt
    have HNX:=Lib.hid (fun h1 h2=>HTO.out.next (k:=k) h1 h2)
    have HNO:=Lib.hid (fun hh=>tre_no_fir (t:=t) (k:=k) hkl hh)
    simp only [blkAt] at HNX HNO
    obtain ⟨x,hx⟩:∃ x,x=t.blocks.getD k noBlk:=⟨_,rfl⟩
    rw [← hx] at hbk HNX HNO
    obtain ⟨g0,g1,g2,⟨v,g3,a',n',c',rfl,ra,-,-⟩,g4,g5⟩:=hbk
    have hzw:=World.block_lt_of_cell? wr ⟨w.heap.size,0,none⟩ x0
    have hbw:=World.block_lt_of_cell? wr ⟨b,off+k*6,none⟩ g0
    have HKP:Hid (∀ W':World,Below wr.heap.size wr W'→(W'.cell? ⟨w.heap.size,0,none⟩=some (.slice a1 n1 c1)∧W'.cell? ⟨w.heap.size,1,none⟩=some (.slice (some ⟨b,off,none⟩) n2 c2)∧W'.cell? ⟨w.heap.size,2,none⟩=some (.slice (some ⟨b3,off3,none⟩) n2 c3))∧(W'.cell? ⟨b,off+k*6,none⟩=some (.int .i64 x.bef)∧W'.cell? ⟨b,off+k*6+1,none⟩=some (.int .i64 x.hgt)∧W'.cell? ⟨b,off+k*6+2,none⟩=some (.int .i64 x.view)∧W'.cell? ⟨b,off+k*6+3,none⟩=some (Value.slice a' n' c')∧W'.cell? ⟨b,off+k*6+4,none⟩=some (.int .i64 x.root)∧W'.cell? ⟨b,off+k*6+5,none⟩=some (.int .i64 x.effs))):=Lib.hid (fun W' hb=>⟨⟨tr_cell hb hzw x0,tr_cell hb hzw x1,tr_cell hb hzw x2⟩,tr_cell hb hbw g0,tr_cell hb hbw g1,tr_cell hb hbw g2,tr_cell hb hbw g3,tr_cell hb hbw g4,tr_cell hb hbw g5⟩)
    have HR:=Lib.hid ra
    clear hr ra hx hzw hbw hkl hbf
    have i1:(0:Int)≤(k:Int):=by omega
    have i2:(k:Int) < (n2:Int):=by omega
    cases e4:blkB x with
    | false =>
     have HRS:=Lib.hid (HNO.out (by rw [e4];rintro ⟨h,-⟩;cases h))
     go_upto_region 6 with (fail)
     refine wp_region_light (by kernel_rfl) (fun lz fz wz=>Vals [(0,40,(.pointer (some ⟨w.heap.size,1,none⟩))),(1,41,(.slice (some ⟨b,off,none⟩) n2 c2)),(2,42,(.int .i64 (k:Int))),(3,43,(.pointer (some ⟨b,off+k*6,none⟩))),(4,44,(.agg #[.int .i64 x.bef,.int .i64 x.hgt,.int .i64 x.view,Value.slice a' n' c',.int .i64 x.root,.int .i64 x.effs])),(5,45,(.bool false)),(6,46,(.bool true)),(7,47,(.bool true)),(18,58,(.bool true))] lz fz∧Facts wr [] lz fz wz) 130 rfl [40,41,42,43,44,45,46,47,48,49,50,51,52,53,54,55,56,57,58] (by kernel_rfl) (by kernel_rfl) (by kernel_rfl) (fun f=>⟨Vals.nothing _ f,Facts.nothing _ _ f⟩) ?_ ?_
     · intro i hi
       rcases (by have:i < 19:=hi;omega:i=0∨i=1∨i=2∨i=3∨i=4∨i=5∨i=6∨i=7∨i=8∨i=9∨i=10∨i=11∨i=12∨i=13∨i=14∨i=15∨i=16∨i=17∨i=18) with rfl | rfl | rfl | rfl | rfl | rfl | rfl | rfl | rfl | rfl | rfl | rfl | rfl | rfl | rfl | rfl | rfl | rfl | rfl
       all_goals (clear hi;intro o ho lz fz w' A ⟨hv,hr⟩ hli ha hA K hK;obtain rfl:=Option.some.inj ho;clear ho)
       · have gg1:=so hA 1 _ rfl
         simp only [List.getD_cons_succ,List.getD_cons_zero] at gg1
         rw [if_pos (by rfl)]
         have hF:=hK _ w' ⟨hv.put 0 0 40 rfl rfl rfl,hr.nil⟩
         clear hv hr ha hK hA hli;go_simp;exact hF
       · have gg40:=sj hA 40 (hv.at 0 rfl (ha 0 (by decide)))
         rw [if_pos (by rfl)]
         obtain ⟨⟨kx0,kx1,kx2⟩,kg0,kg1,kg2,kg3,kg4,kg5⟩:=HKP.out w' hr.1
         have hF:=hK _ w' ⟨hv.put 1 1 41 rfl rfl rfl,hr.nil⟩
         clear hv hr ha hK hA hli;go_simp;exact hF
       · have gg3:=so hA 3 _ rfl
         simp only [List.getD_cons_succ,List.getD_cons_zero] at gg3
         rw [if_pos (by rfl)]
         have hF:=hK _ w' ⟨hv.put 2 2 42 rfl rfl rfl,hr.nil⟩
         clear hv hr ha hK hA hli;go_simp;exact hF
       · have gg41:=sj hA 41 (hv.at 1 rfl (ha 1 (by decide)))
         have gg42:=sj hA 42 (hv.at 2 rfl (ha 2 (by decide)))
         rw [if_pos (by rfl)]
         have hF:=hK _ w' ⟨hv.put 3 3 43 rfl rfl rfl,hr.nil⟩
         clear hv hr ha hK hA hli;go_simp;exact hF
       · have gg43:=sj hA 43 (hv.at 3 rfl (ha 3 (by decide)))
         rw [if_pos (by rfl)]
         obtain ⟨⟨kx0,kx1,kx2⟩,kg0,kg1,kg2,kg3,kg4,kg5⟩:=HKP.out w' hr.1
         have hF:=hK _ w' ⟨hv.put 4 4 44 rfl rfl rfl,hr.nil⟩
         clear hv hr ha hK hA hli;go_simp;exact hF
       · have gg44:=sj hA 44 (hv.at 4 rfl (ha 4 (by decide)))
         rw [if_pos (by rfl)]
         clear hA
         go_simp
         refine (blockValid_specV x a' n' c' _ (HR.out.below hr.1)).mono ?_
         rintro e9 w9 ⟨rfl,hb9⟩
         rw [e4]
         exact hK (.bool false) w9 ⟨hv.step 5 45 _ (by simp),hr.step 5 45 _ hb9 (by simp)⟩
       · have gg45:=sj hA 45 (hv.at 5 rfl (ha 5 (by decide)))
         rw [if_pos (by rfl)]
         have hF:=hK _ w' ⟨hv.put 6 6 46 rfl rfl rfl,hr.nil⟩
         clear hv hr ha hK hA hli;go_simp;exact hF
       · have gg46:=sj hA 46 (hv.at 6 rfl (ha 6 (by decide)))
         rw [if_pos (by rfl)]
         have hF:=hK _ w' ⟨hv.put 7 7 47 rfl rfl rfl,hr.nil⟩
         clear hv hr ha hK hA hli;go_simp;exact hF
       iterate 10
        · have g47:=si hA 47 (hv.at 7 rfl (ha 7 (by decide)))
          have gw:=slot_bool g47
          rw [if_neg (by simp [Region.wanted,yielded,gw])]
          exact hK undef w' ⟨hv.step _ _ _ (by simp),hr.step _ _ _ (Below.refl _ _) (by simp)⟩
       · have gg47:=sj hA 47 (hv.at 7 rfl (ha 7 (by decide)))
         rw [if_pos (by rfl)]
         have hF:=hK _ w' ⟨hv.put 8 18 58 rfl rfl rfl,hr.nil⟩
         clear hv hr ha hK hA hli;go_simp;exact hF
     · intro lz fz w6 hall ⟨hv,hq⟩
       have h58:=hv.at 8 rfl (hall 18 (by decide))
       have hbR:=hq.1
       clear hv hq hall
       simp only [mixF,List.contains_cons,List.contains_nil]
       go_simp
       have HBF:=Lib.hid (HK.out _ (HB.out.trans (hbR.mono HB.out.size))).2.2.2.2
       clear hbR
       go_wp2_with fail
       go_ret
       exact ⟨by rw [HRS.out];rfl,HBF.out⟩
    | true =>
    obtain ⟨m,hme⟩:∃ m,findL t.blocks (blkSumM x)=m:=⟨_,rfl⟩
    have HME:=Lib.hid hme
    rw [hme] at HNX HNO
    clear hme
    by_cases h5:m=k
    case neg =>
     have HRS:=Lib.hid (HNO.out (by rintro ⟨-,h⟩;exact h5 h))
     have e5:(m != (k:Int))=true:=by simp [h5]
     clear h5
     go_upto_region 6 with (fail)
     go_region_held3 (fun w'=>(w'.cell? ⟨w.heap.size,0,none⟩=some (.slice a1 n1 c1)∧w'.cell? ⟨w.heap.size,1,none⟩=some (.slice (some ⟨b,off,none⟩) n2 c2)∧w'.cell? ⟨w.heap.size,2,none⟩=some (.slice (some ⟨b3,off3,none⟩) n2 c3))∧(w'.cell? ⟨b,off+k*6,none⟩=some (.int .i64 x.bef)∧w'.cell? ⟨b,off+k*6+1,none⟩=some (.int .i64 x.hgt)∧w'.cell? ⟨b,off+k*6+2,none⟩=some (.int .i64 x.view)∧w'.cell? ⟨b,off+k*6+3,none⟩=some (Value.slice a' n' c')∧w'.cell? ⟨b,off+k*6+4,none⟩=some (.int .i64 x.root)∧w'.cell? ⟨b,off+k*6+5,none⟩=some (.int .i64 x.effs))) (first | exact ⟨⟨x0,x1,x2⟩,g0,g1,g2,g3,g4,g5⟩ | exact hkp | exact hkp2 | exact hkp3 | go_keep)
      (first | (go_at_call 85;refine (blockValid_specV x a' n' c' wr.drew (show RowA wr.drew _ _ _ from HR.out)).mono ?_;rintro e1 w7 ⟨rfl,hb7'⟩;have hb7:=(Below.refl wr.heap.size wr).drew.trans hb7';have hkp:=HKP.out _ hb7;rw [e4]) | (go_at_call 86;refine (blockSum_specV x a' n' c' w7 (HR.out.below hb7)).mono ?_;rintro e1 w8 ⟨rfl,hb8'⟩;have hb8:=hb7.trans (hb8'.mono hb7.size);have hkp2:=HKP.out _ hb8) | (go_at_call 72;refine (l13Find_spec _ _ _ t _ w8 (HRD.out w8 (HB.out.trans (hb8.mono HB.out.size)))).mono ?_;rintro e1 w9 ⟨rfl,hb9'⟩;have hb9:=hb8.trans (hb9'.mono hb8.size);have hkp3:=HKP.out _ hb9;rw [HME.out]))
     have HB9:=Lib.hid (HB.out.trans (hb9.mono HB.out.size))
     clear hkp hb7 hb7' hkp2 hb8 hb8' hkp3 hb9 hb9'
     have HBF:=Lib.hid (HK.out _ HB9.out).2.2.2.2
     go_wp2_with fail
     go_ret
     exact ⟨by rw [HRS.out];rfl,HBF.out⟩
    have e5:(m != (k:Int))=false:=by simp [h5]
    have HRS:=Lib.hid (HNX.out e4 h5)
    clear h5
    go_upto_region 6 with (fail)
    go_region_held3 (fun w'=>(w'.cell? ⟨w.heap.size,0,none⟩=some (.slice a1 n1 c1)∧w'.cell? ⟨w.heap.size,1,none⟩=some (.slice (some ⟨b,off,none⟩) n2 c2)∧w'.cell? ⟨w.heap.size,2,none⟩=some (.slice (some ⟨b3,off3,none⟩) n2 c3))∧(w'.cell? ⟨b,off+k*6,none⟩=some (.int .i64 x.bef)∧w'.cell? ⟨b,off+k*6+1,none⟩=some (.int .i64 x.hgt)∧w'.cell? ⟨b,off+k*6+2,none⟩=some (.int .i64 x.view)∧w'.cell? ⟨b,off+k*6+3,none⟩=some (Value.slice a' n' c')∧w'.cell? ⟨b,off+k*6+4,none⟩=some (.int .i64 x.root)∧w'.cell? ⟨b,off+k*6+5,none⟩=some (.int .i64 x.effs))) (first | exact ⟨⟨x0,x1,x2⟩,g0,g1,g2,g3,g4,g5⟩ | exact hkp | exact hkp2 | exact hkp3 | go_keep)
     (first | (go_at_call 85;refine (blockValid_specV x a' n' c' wr.drew (show RowA wr.drew _ _ _ from HR.out)).mono ?_;rintro e1 w7 ⟨rfl,hb7'⟩;have hb7:=(Below.refl wr.heap.size wr).drew.trans hb7';have hkp:=HKP.out _ hb7;rw [e4]) | (go_at_call 86;refine (blockSum_specV x a' n' c' w7 (HR.out.below hb7)).mono ?_;rintro e1 w8 ⟨rfl,hb8'⟩;have hb8:=hb7.trans (hb8'.mono hb7.size);have hkp2:=HKP.out _ hb8) | (go_at_call 72;refine (l13Find_spec _ _ _ t _ w8 (HRD.out w8 (HB.out.trans (hb8.mono HB.out.size)))).mono ?_;rintro e1 w9 ⟨rfl,hb9'⟩;have hb9:=hb8.trans (hb9'.mono hb8.size);have hkp3:=HKP.out _ hb9;rw [HME.out]))
    have HB9:=Lib.hid (HB.out.trans (hb9.mono HB.out.size))
    clear hkp hb7 hb7' hkp2 hb8 hb8' hkp3 hb9 hb9'
    go_wp2_with fail
    go_roundw
    case rel=>exact ⟨k+1,by omega,by go_num,HRS.out,HB9.out⟩
    case measure=>simp [intOf];omega
  · obtain rfl:k=n2:=by omega
    clear hr hbf
    go_wp2_with fail
    have HFT:=Lib.hid HTO.out
    have HB1:=Lib.hid HB.out
    clear x0 x1 x2 HTO HB
    obtain ⟨wo,hwo⟩:∃ wo,wo=wr:=⟨wr,rfl⟩
    rw [← hwo] at HB1 ⊢
    clear hwo
    go_loopw [4,5] (fun i q wr=>∃ j:Nat,1≤j∧j≤k∧i = .int .i64 j∧BehTo t j∧Below W1.heap.size W1 wr) (fun i _ _=>k - (intOf i).toNat)
    case atStart=>exact ⟨1,by omega,by omega,rfl,fun j h0 hj=>absurd hj (by omega),HB1.out⟩
    case round =>
     obtain ⟨j,hj1,hj,rfl,hto,hb⟩:=hrel
     have HTO:=Lib.hid hto
     have HB:=Lib.hid hb
     clear hto hb HB1
     obtain ⟨⟨x0,x1,x2,-⟩,-,hr,hi3,hbf⟩:=HK.out wr HB.out
     by_cases hlt:j < k
     · obtain ⟨b3',off3',h3e,hc3⟩:=hi3.2.2.1 (by omega)
       obtain ⟨rfl,rfl⟩:b3=b3'∧off3=off3':=by simpa using h3e
       have hc3j:=hc3 j hlt
       have HNX:=Lib.hid (fun (hh:BehOk t j)=>HTO.out.next hh)
       have HNO:=Lib.hid (fun (hh:¬ BehOk t j)=>tre_no_beh (t:=t) (k:=j) (by omega) (by rw [HL2.out];exact hlt) hh)
       have hwv:=hi3.2.2.2 _ (by rw [List.getD_eq_getElem?_getD,List.getElem?_eq_getElem (by rw [hi3.1];exact hlt)];exact List.getElem_mem _:t.bef.getD j 0∈t.bef)
       obtain ⟨f,hfe⟩:∃ f,f=t.bef.getD j 0:=⟨_,rfl⟩
       rw [← hfe] at hc3j hwv
       have HFE:=Lib.hid hfe
       clear hi3 h3e hc3 hfe
       obtain ⟨b,off,hae,hby⟩:=hr.at j hlt
       have HRR:=Lib.hid hr
       have hyok:=((firB_iff t j).1 (HFT.out j hlt)).1
       simp only [blkAt] at hyok
       obtain ⟨y,hy⟩:∃ y,y=t.blocks.getD j noBlk:=⟨_,rfl⟩
       rw [← hy] at hby hyok
       have HY:=Lib.hid hy
       have hyb:=(blkB_true hyok).2.2.2.1
       clear hy hyok hr hbf
       have i1:(0:Int)≤(j:Int):=by omega
       have i2:(j:Int) < (k:Int):=by omega
       have hw1:IntKind.i64.wrap ((j:Int) - 1)=(j:Int) - 1:=IntWalk.i64_in _ (by omega)
       have hw2:IntKind.i64.wrap (y.hgt - 1)=y.hgt - 1:=IntWalk.i64_in _ (by omega)
       subst hae
       have hzw:=World.block_lt_of_cell? wr ⟨w.heap.size,0,none⟩ x0
       have hbw:=World.block_lt_of_cell? wr ⟨b,off+j*6,none⟩ hby.c0
       by_cases h4:0≤f∧f≤(j:Int) - 1
       case neg =>
        have e4:inB f 0 ((j:Int) - 1)=false:=inB_no (by omega)
        have HRS:=Lib.hid (HNO.out (fun hh=>h4 ⟨by rw [HFE.out];exact hh.lo,by have:=hh.hi;rw [HFE.out];omega⟩))
        clear h4
        go_upto_region 12 with (fail)
        refine wp_region_light (by kernel_rfl) (fun lz fz wz=>Vals [(0,71,(.int .i64 f)),(1,72,(.int .i64 (j:Int))),(2,73,(.int .i64 ((j:Int) - 1))),(3,74,(.bool false)),(4,75,(.bool true)),(5,76,(.bool true)),(19,90,(.bool true)),(20,91,(.bool true)),(35,106,(.bool true)),(36,107,(.bool true)),(50,121,(.bool true))] lz fz∧Facts wr [] lz fz wz) 130 rfl [71,72,73,74,75,76,77,78,79,80,81,82,83,84,85,86,87,88,89,90,91,92,93,94,95,96,97,98,99,100,101,102,103,104,105,106,107,108,109,110,111,112,113,114,115,116,117,118,119,120,121] (by kernel_rfl) (by kernel_rfl) (by kernel_rfl) (fun f=>⟨Vals.nothing _ f,Facts.nothing _ _ f⟩) ?_ ?_
        · intro i hi
          rcases (by have:i < 51:=hi;omega:i=0∨i=1∨i=2∨i=3∨i=4∨i=5∨i=6∨i=7∨i=8∨i=9∨i=10∨i=11∨i=12∨i=13∨i=14∨i=15∨i=16∨i=17∨i=18∨i=19∨i=20∨i=21∨i=22∨i=23∨i=24∨i=25∨i=26∨i=27∨i=28∨i=29∨i=30∨i=31∨i=32∨i=33∨i=34∨i=35∨i=36∨i=37∨i=38∨i=39∨i=40∨i=41∨i=42∨i=43∨i=44∨i=45∨i=46∨i=47∨i=48∨i=49∨i=50) with rfl | rfl | rfl | rfl | rfl | rfl | rfl | rfl | rfl | rfl | rfl | rfl | rfl | rfl | rfl | rfl | rfl | rfl | rfl | rfl | rfl | rfl | rfl | rfl | rfl | rfl | rfl | rfl | rfl | rfl | rfl | rfl | rfl | rfl | rfl | rfl | rfl | rfl | rfl | rfl | rfl | rfl | rfl | rfl | rfl | rfl | rfl | rfl | rfl | rfl | rfl
          all_goals (clear hi;intro o ho lz fz w' A ⟨hv,hr⟩ hli ha hA K hK;obtain rfl:=Option.some.inj ho;clear ho)
          · have gg5:=so hA 5 _ rfl
            simp only [List.getD_cons_succ,List.getD_cons_zero] at gg5
            rw [if_pos (by rfl)]
            have hF:=hK _ w' ⟨hv.put 0 0 71 rfl rfl rfl,hr.nil⟩
            clear hv hr ha hK hA hli;go_simp;exact hF
          · have gg4:=so hA 4 _ rfl
            simp only [List.getD_cons_succ,List.getD_cons_zero] at gg4
            rw [if_pos (by rfl)]
            have hF:=hK _ w' ⟨hv.put 1 1 72 rfl rfl rfl,hr.nil⟩
            clear hv hr ha hK hA hli;go_simp;exact hF
          · have gg72:=sj hA 72 (hv.at 1 rfl (ha 1 (by decide)))
            rw [if_pos (by rfl)]
            have hF:=hK _ w' ⟨hv.put 2 2 73 rfl rfl rfl,hr.nil⟩
            clear hv hr ha hK hA hli;go_simp;exact hF
          · have gg71:=sj hA 71 (hv.at 0 rfl (ha 0 (by decide)))
            have gg73:=sj hA 73 (hv.at 2 rfl (ha 2 (by decide)))
            rw [if_pos (by rfl)]
            clear hA
            go_simp
            refine (l1In_spec _ _ _ _).mono ?_
            rintro e9 w9 ⟨rfl,rfl⟩
            rw [e4]
            have hb9:=Below.refl w9.heap.size w9
            exact hK (.bool false) w9 ⟨hv.step 3 74 _ (by simp),hr.step 3 74 _ hb9 (by simp)⟩
          · have gg74:=sj hA 74 (hv.at 3 rfl (ha 3 (by decide)))
            rw [if_pos (by rfl)]
            have hF:=hK _ w' ⟨hv.put 4 4 75 rfl rfl rfl,hr.nil⟩
            clear hv hr ha hK hA hli;go_simp;exact hF
          · have gg75:=sj hA 75 (hv.at 4 rfl (ha 4 (by decide)))
            rw [if_pos (by rfl)]
            have hF:=hK _ w' ⟨hv.put 5 5 76 rfl rfl rfl,hr.nil⟩
            clear hv hr ha hK hA hli;go_simp;exact hF
          iterate 13
           · have g76:=si hA 76 (hv.at 5 rfl (ha 5 (by decide)))
             have gw:=slot_bool g76
             rw [if_neg (by simp [Region.wanted,yielded,gw])]
             exact hK undef w' ⟨hv.step _ _ _ (by simp),hr.step _ _ _ (Below.refl _ _) (by simp)⟩
          · have gg76:=sj hA 76 (hv.at 5 rfl (ha 5 (by decide)))
            rw [if_pos (by rfl)]
            have hF:=hK _ w' ⟨hv.put 6 19 90 rfl rfl rfl,hr.nil⟩
            clear hv hr ha hK hA hli;go_simp;exact hF
          · have gg90:=sj hA 90 (hv.at 6 rfl (ha 19 (by decide)))
            rw [if_pos (by rfl)]
            have hF:=hK _ w' ⟨hv.put 7 20 91 rfl rfl rfl,hr.nil⟩
            clear hv hr ha hK hA hli;go_simp;exact hF
          iterate 14
           · have g91:=si hA 91 (hv.at 7 rfl (ha 20 (by decide)))
             have gw:=slot_bool g91
             rw [if_neg (by simp [Region.wanted,yielded,gw])]
             exact hK undef w' ⟨hv.step _ _ _ (by simp),hr.step _ _ _ (Below.refl _ _) (by simp)⟩
          · have gg91:=sj hA 91 (hv.at 7 rfl (ha 20 (by decide)))
            rw [if_pos (by rfl)]
            have hF:=hK _ w' ⟨hv.put 8 35 106 rfl rfl rfl,hr.nil⟩
            clear hv hr ha hK hA hli;go_simp;exact hF
          · have gg106:=sj hA 106 (hv.at 8 rfl (ha 35 (by decide)))
            rw [if_pos (by rfl)]
            have hF:=hK _ w' ⟨hv.put 9 36 107 rfl rfl rfl,hr.nil⟩
            clear hv hr ha hK hA hli;go_simp;exact hF
          iterate 13
           · have g107:=si hA 107 (hv.at 9 rfl (ha 36 (by decide)))
             have gw:=slot_bool g107
             rw [if_neg (by simp [Region.wanted,yielded,gw])]
             exact hK undef w' ⟨hv.step _ _ _ (by simp),hr.step _ _ _ (Below.refl _ _) (by simp)⟩
          · have gg107:=sj hA 107 (hv.at 9 rfl (ha 36 (by decide)))
            rw [if_pos (by rfl)]
            have hF:=hK _ w' ⟨hv.put 10 50 121 rfl rfl rfl,hr.nil⟩
            clear hv hr ha hK hA hli;go_simp;exact hF
        · intro lz fz w6 hall ⟨hv,hq⟩
          have h121:=hv.at 10 rfl (hall 50 (by decide))
          have hbR:=hq.1
          clear hv hq hall
          simp only [mixF,List.contains_cons,List.contains_nil]
          go_simp
          have HBF:=Lib.hid (HK.out _ (HB.out.trans (hbR.mono HB.out.size))).2.2.2.2
          clear hbR
          go_wp2_with fail
          go_ret
          exact ⟨by rw [HRS.out];rfl,HBF.out⟩
       have e4:inB f 0 ((j:Int) - 1)=true:=inB_yes h4.1 h4.2
       obtain ⟨g,rfl⟩:=Int.eq_ofNat_of_zero_le h4.1
       have hgj:g < j:=by omega
       have hgk:g < k:=by omega
       clear h4
       obtain ⟨b',off',hae',hbx⟩:=HRR.out.at g hgk
       obtain ⟨rfl,rfl⟩:b=b'∧off=off':=by simpa using hae'
       obtain ⟨x,hx⟩:∃ x,x=t.blocks.getD g noBlk:=⟨_,rfl⟩
       rw [← hx] at hbx
       have HX:=Lib.hid hx
       clear hx hae'
       obtain ⟨g0,g1,g2,⟨v,g3,a',n',c',rfl,ra,-,-⟩,g4,g5⟩:=hbx
       obtain ⟨k0,k1,k2,-,-,-⟩:=hby
       have HKP:Hid (∀ W':World,Below wr.heap.size wr W'→(W'.cell? ⟨w.heap.size,0,none⟩=some (.slice a1 n1 c1)∧W'.cell? ⟨w.heap.size,1,none⟩=some (.slice (some ⟨b,off,none⟩) k c2)∧W'.cell? ⟨w.heap.size,2,none⟩=some (.slice (some ⟨b3,off3,none⟩) k c3))∧(W'.cell? ⟨b,off+g*6,none⟩=some (.int .i64 x.bef)∧W'.cell? ⟨b,off+g*6+1,none⟩=some (.int .i64 x.hgt)∧W'.cell? ⟨b,off+g*6+2,none⟩=some (.int .i64 x.view)∧W'.cell? ⟨b,off+g*6+3,none⟩=some (Value.slice a' n' c')∧W'.cell? ⟨b,off+g*6+4,none⟩=some (.int .i64 x.root)∧W'.cell? ⟨b,off+g*6+5,none⟩=some (.int .i64 x.effs))∧W'.cell? ⟨b,off+j*6,none⟩=some (.int .i64 y.bef)∧W'.cell? ⟨b,off+j*6+1,none⟩=some (.int .i64 y.hgt)∧W'.cell? ⟨b,off+j*6+2,none⟩=some (.int .i64 y.view)):=Lib.hid (fun W' hb=>⟨⟨tr_cell hb hzw x0,tr_cell hb hzw x1,tr_cell hb hzw x2⟩,⟨tr_cell hb hbw g0,tr_cell hb hbw g1,tr_cell hb hbw g2,tr_cell hb hbw g3,tr_cell hb hbw g4,tr_cell hb hbw g5⟩,tr_cell hb hbw k0,tr_cell hb hbw k1,tr_cell hb hbw k2⟩)
       have HR:=Lib.hid ra
       have j1:(0:Int)≤(g:Int):=by omega
       have j2:(g:Int) < (k:Int):=by omega
       obtain ⟨m,hme⟩:∃ m,blkSumM x=m:=⟨_,rfl⟩
       have HME:=Lib.hid hme
       have HBH:Hid (BehOk t j ↔ (m=y.bef∧x.hgt=y.hgt - 1∧x.view < y.view)):=Lib.hid (by
        have e1:(t.bef.getD j 0).toNat=g:=by rw [← HFE.out];rfl
        constructor
        · intro hh
          have q1:=hh.sum;have q2:=hh.hgt;have q3:=hh.view
          rw [e1] at q1 q2 q3
          simp only [blkAt,← HX.out,← HY.out] at q1 q2 q3
          exact ⟨by rw [← HME.out];exact q1,q2,q3⟩
        · rintro ⟨q1,q2,q3⟩
          exact ⟨by rw [← HFE.out];omega,by rw [← HFE.out];omega,by rw [e1];simp only [blkAt,← HX.out,← HY.out];rw [HME.out];exact q1,by rw [e1];simp only [blkAt,← HX.out,← HY.out];exact q2,by rw [e1];simp only [blkAt,← HX.out,← HY.out];exact q3⟩)
       clear ra hme hzw hbw g0 g1 g2 g3 g4 g5 k0 k1 k2 x0
       by_cases h5:m=y.bef
       case neg =>
        have e5:(m != y.bef)=true:=by simp [h5]
        have HRS:=Lib.hid (HNO.out (fun hh=>h5 (HBH.out.1 hh).1))
        clear h5
        go_upto_region 12 with (fail)
        refine wp_region_light (by kernel_rfl) (fun lz fz wz=>Vals [(0,71,(.int .i64 (g:Int))),(1,72,(.int .i64 (j:Int))),(2,73,(.int .i64 ((j:Int) - 1))),(3,74,(.bool true)),(4,75,(.bool false)),(5,76,(.bool false)),(6,77,(.pointer (some ⟨w.heap.size,1,none⟩))),(7,78,(.slice (some ⟨b,off,none⟩) k c2)),(8,79,(.int .i64 (g:Int))),(9,80,(.pointer (some ⟨b,off+g*6,none⟩))),(10,81,(.agg #[.int .i64 x.bef,.int .i64 x.hgt,.int .i64 x.view,Value.slice a' n' c',.int .i64 x.root,.int .i64 x.effs])),(11,82,(.int .i64 m)),(12,83,(.pointer (some ⟨w.heap.size,1,none⟩))),(13,84,(.slice (some ⟨b,off,none⟩) k c2)),(14,85,(.int .i64 (j:Int))),(15,86,(.pointer (some ⟨b,off+j*6,none⟩))),(16,87,(.pointer (some ⟨b,off+j*6,none⟩))),(17,88,(.int .i64 y.bef)),(18,89,(.bool true)),(19,90,(.bool true)),(20,91,(.bool true)),(35,106,(.bool true)),(36,107,(.bool true)),(50,121,(.bool true))] lz fz∧Facts wr [] lz fz wz) 130 rfl [71,72,73,74,75,76,77,78,79,80,81,82,83,84,85,86,87,88,89,90,91,92,93,94,95,96,97,98,99,100,101,102,103,104,105,106,107,108,109,110,111,112,113,114,115,116,117,118,119,120,121] (by kernel_rfl) (by kernel_rfl) (by kernel_rfl) (fun f=>⟨Vals.nothing _ f,Facts.nothing _ _ f⟩) ?_ ?_
        · intro i hi
          rcases (by have:i < 51:=hi;omega:i=0∨i=1∨i=2∨i=3∨i=4∨i=5∨i=6∨i=7∨i=8∨i=9∨i=10∨i=11∨i=12∨i=13∨i=14∨i=15∨i=16∨i=17∨i=18∨i=19∨i=20∨i=21∨i=22∨i=23∨i=24∨i=25∨i=26∨i=27∨i=28∨i=29∨i=30∨i=31∨i=32∨i=33∨i=34∨i=35∨i=36∨i=37∨i=38∨i=39∨i=40∨i=41∨i=42∨i=43∨i=44∨i=45∨i=46∨i=47∨i=48∨i=49∨i=50) with rfl | rfl | rfl | rfl | rfl | rfl | rfl | rfl | rfl | rfl | rfl | rfl | rfl | rfl | rfl | rfl | rfl | rfl | rfl | rfl | rfl | rfl | rfl | rfl | rfl | rfl | rfl | rfl | rfl | rfl | rfl | rfl | rfl | rfl | rfl | rfl | rfl | rfl | rfl | rfl | rfl | rfl | rfl | rfl | rfl | rfl | rfl | rfl | rfl | rfl | rfl
          all_goals (clear hi;intro o ho lz fz w' A ⟨hv,hr⟩ hli ha hA K hK;obtain rfl:=Option.some.inj ho;clear ho)
          · have gg5:=so hA 5 _ rfl
            simp only [List.getD_cons_succ,List.getD_cons_zero] at gg5
            rw [if_pos (by rfl)]
            have hF:=hK _ w' ⟨hv.put 0 0 71 rfl rfl rfl,hr.nil⟩
            clear hv hr ha hK hA hli;go_simp;exact hF
          · have gg4:=so hA 4 _ rfl
            simp only [List.getD_cons_succ,List.getD_cons_zero] at gg4
            rw [if_pos (by rfl)]
            have hF:=hK _ w' ⟨hv.put 1 1 72 rfl rfl rfl,hr.nil⟩
            clear hv hr ha hK hA hli;go_simp;exact hF
          · have gg72:=sj hA 72 (hv.at 1 rfl (ha 1 (by decide)))
            rw [if_pos (by rfl)]
            have hF:=hK _ w' ⟨hv.put 2 2 73 rfl rfl rfl,hr.nil⟩
            clear hv hr ha hK hA hli;go_simp;exact hF
          · have gg71:=sj hA 71 (hv.at 0 rfl (ha 0 (by decide)))
            have gg73:=sj hA 73 (hv.at 2 rfl (ha 2 (by decide)))
            rw [if_pos (by rfl)]
            clear hA
            go_simp
            refine (l1In_spec _ _ _ _).mono ?_
            rintro e9 w9 ⟨rfl,rfl⟩
            rw [e4]
            have hb9:=Below.refl w9.heap.size w9
            exact hK (.bool true) w9 ⟨hv.step 3 74 _ (by simp),hr.step 3 74 _ hb9 (by simp)⟩
          · have gg74:=sj hA 74 (hv.at 3 rfl (ha 3 (by decide)))
            rw [if_pos (by rfl)]
            have hF:=hK _ w' ⟨hv.put 4 4 75 rfl rfl rfl,hr.nil⟩
            clear hv hr ha hK hA hli;go_simp;exact hF
          · have gg75:=sj hA 75 (hv.at 4 rfl (ha 4 (by decide)))
            rw [if_pos (by rfl)]
            have hF:=hK _ w' ⟨hv.put 5 5 76 rfl rfl rfl,hr.nil⟩
            clear hv hr ha hK hA hli;go_simp;exact hF
          · have gg1:=so hA 1 _ rfl
            simp only [List.getD_cons_succ,List.getD_cons_zero] at gg1
            have g76:=si hA 76 (hv.at 5 rfl (ha 5 (by decide)))
            have gg76:=slot_get g76
            rw [if_pos (by simp [Region.wanted,yielded,slot_bool g76])]
            have hF:=hK _ w' ⟨hv.put 6 6 77 rfl rfl rfl,hr.nil⟩
            clear hv hr ha hK hA hli;go_simp;exact hF
          · have gg77:=sj hA 77 (hv.at 6 rfl (ha 6 (by decide)))
            have g76:=si hA 76 (hv.at 5 rfl (ha 5 (by decide)))
            have gg76:=slot_get g76
            rw [if_pos (by simp [Region.wanted,yielded,slot_bool g76])]
            obtain ⟨⟨kx0,kx1,kx2⟩,⟨kg0,kg1,kg2,kg3,kg4,kg5⟩,kk0,kk1,kk2⟩:=HKP.out w' hr.1
            have hF:=hK _ w' ⟨hv.put 7 7 78 rfl rfl rfl,hr.nil⟩
            clear hv hr ha hK hA hli;go_simp;exact hF
          · have gg5:=so hA 5 _ rfl
            simp only [List.getD_cons_succ,List.getD_cons_zero] at gg5
            have g76:=si hA 76 (hv.at 5 rfl (ha 5 (by decide)))
            have gg76:=slot_get g76
            rw [if_pos (by simp [Region.wanted,yielded,slot_bool g76])]
            have hF:=hK _ w' ⟨hv.put 8 8 79 rfl rfl rfl,hr.nil⟩
            clear hv hr ha hK hA hli;go_simp;exact hF
          · have gg78:=sj hA 78 (hv.at 7 rfl (ha 7 (by decide)))
            have gg79:=sj hA 79 (hv.at 8 rfl (ha 8 (by decide)))
            have g76:=si hA 76 (hv.at 5 rfl (ha 5 (by decide)))
            have gg76:=slot_get g76
            rw [if_pos (by simp [Region.wanted,yielded,slot_bool g76])]
            have hF:=hK _ w' ⟨hv.put 9 9 80 rfl rfl rfl,hr.nil⟩
            clear hv hr ha hK hA hli;go_simp;exact hF
          · have gg80:=sj hA 80 (hv.at 9 rfl (ha 9 (by decide)))
            have g76:=si hA 76 (hv.at 5 rfl (ha 5 (by decide)))
            have gg76:=slot_get g76
            rw [if_pos (by simp [Region.wanted,yielded,slot_bool g76])]
            obtain ⟨⟨kx0,kx1,kx2⟩,⟨kg0,kg1,kg2,kg3,kg4,kg5⟩,kk0,kk1,kk2⟩:=HKP.out w' hr.1
            have hF:=hK _ w' ⟨hv.put 10 10 81 rfl rfl rfl,hr.nil⟩
            clear hv hr ha hK hA hli;go_simp;exact hF
          · have gg81:=sj hA 81 (hv.at 10 rfl (ha 10 (by decide)))
            have g76:=si hA 76 (hv.at 5 rfl (ha 5 (by decide)))
            have gg76:=slot_get g76
            rw [if_pos (by simp [Region.wanted,yielded,slot_bool g76])]
            clear hA
            go_simp
            refine (blockSum_specV x a' n' c' _ (HR.out.below hr.1)).mono ?_
            rintro e9 w9 ⟨rfl,hb9⟩
            rw [HME.out]
            exact hK (.int .i64 m) w9 ⟨hv.step 11 82 _ (by simp),hr.step 11 82 _ hb9 (by simp)⟩
          · have gg1:=so hA 1 _ rfl
            simp only [List.getD_cons_succ,List.getD_cons_zero] at gg1
            have g76:=si hA 76 (hv.at 5 rfl (ha 5 (by decide)))
            have gg76:=slot_get g76
            rw [if_pos (by simp [Region.wanted,yielded,slot_bool g76])]
            have hF:=hK _ w' ⟨hv.put 12 12 83 rfl rfl rfl,hr.nil⟩
            clear hv hr ha hK hA hli;go_simp;exact hF
          · have gg83:=sj hA 83 (hv.at 12 rfl (ha 12 (by decide)))
            have g76:=si hA 76 (hv.at 5 rfl (ha 5 (by decide)))
            have gg76:=slot_get g76
            rw [if_pos (by simp [Region.wanted,yielded,slot_bool g76])]
            obtain ⟨⟨kx0,kx1,kx2⟩,⟨kg0,kg1,kg2,kg3,kg4,kg5⟩,kk0,kk1,kk2⟩:=HKP.out w' hr.1
            have hF:=hK _ w' ⟨hv.put 13 13 84 rfl rfl rfl,hr.nil⟩
            clear hv hr ha hK hA hli;go_simp;exact hF
          · have gg4:=so hA 4 _ rfl
            simp only [List.getD_cons_succ,List.getD_cons_zero] at gg4
            have g76:=si hA 76 (hv.at 5 rfl (ha 5 (by decide)))
            have gg76:=slot_get g76
            rw [if_pos (by simp [Region.wanted,yielded,slot_bool g76])]
            have hF:=hK _ w' ⟨hv.put 14 14 85 rfl rfl rfl,hr.nil⟩
            clear hv hr ha hK hA hli;go_simp;exact hF
          · have gg84:=sj hA 84 (hv.at 13 rfl (ha 13 (by decide)))
            have gg85:=sj hA 85 (hv.at 14 rfl (ha 14 (by decide)))
            have g76:=si hA 76 (hv.at 5 rfl (ha 5 (by decide)))
            have gg76:=slot_get g76
            rw [if_pos (by simp [Region.wanted,yielded,slot_bool g76])]
            have hF:=hK _ w' ⟨hv.put 15 15 86 rfl rfl rfl,hr.nil⟩
            clear hv hr ha hK hA hli;go_simp;exact hF
          · have gg86:=sj hA 86 (hv.at 15 rfl (ha 15 (by decide)))
            have g76:=si hA 76 (hv.at 5 rfl (ha 5 (by decide)))
            have gg76:=slot_get g76
            rw [if_pos (by simp [Region.wanted,yielded,slot_bool g76])]
            have hF:=hK _ w' ⟨hv.put 16 16 87 rfl rfl rfl,hr.nil⟩
            clear hv hr ha hK hA hli;go_simp;exact hF
          · have gg87:=sj hA 87 (hv.at 16 rfl (ha 16 (by decide)))
            have g76:=si hA 76 (hv.at 5 rfl (ha 5 (by decide)))
            have gg76:=slot_get g76
            rw [if_pos (by simp [Region.wanted,yielded,slot_bool g76])]
            obtain ⟨⟨kx0,kx1,kx2⟩,⟨kg0,kg1,kg2,kg3,kg4,kg5⟩,kk0,kk1,kk2⟩:=HKP.out w' hr.1
            have hF:=hK _ w' ⟨hv.put 17 17 88 rfl rfl rfl,hr.nil⟩
            clear hv hr ha hK hA hli;go_simp;exact hF
          · have gg82:=sj hA 82 (hv.at 11 rfl (ha 11 (by decide)))
            have gg88:=sj hA 88 (hv.at 17 rfl (ha 17 (by decide)))
            have g76:=si hA 76 (hv.at 5 rfl (ha 5 (by decide)))
            have gg76:=slot_get g76
            rw [if_pos (by simp [Region.wanted,yielded,slot_bool g76])]
            have hF:=hK _ w' ⟨hv.put 18 18 89 rfl rfl rfl,hr.nil⟩
            clear hv hr ha hK hA hli;go_simp;exact hF
          · have gg76:=sj hA 76 (hv.at 5 rfl (ha 5 (by decide)))
            have gg89:=sj hA 89 (hv.at 18 rfl (ha 18 (by decide)))
            rw [if_pos (by rfl)]
            have hF:=hK _ w' ⟨hv.put 19 19 90 rfl rfl rfl,hr.nil⟩
            clear hv hr ha hK hA hli;go_simp;exact hF
          · have gg90:=sj hA 90 (hv.at 19 rfl (ha 19 (by decide)))
            rw [if_pos (by rfl)]
            have hF:=hK _ w' ⟨hv.put 20 20 91 rfl rfl rfl,hr.nil⟩
            clear hv hr ha hK hA hli;go_simp;exact hF
          iterate 14
           · have g91:=si hA 91 (hv.at 20 rfl (ha 20 (by decide)))
             have gw:=slot_bool g91
             rw [if_neg (by simp [Region.wanted,yielded,gw])]
             exact hK undef w' ⟨hv.step _ _ _ (by simp),hr.step _ _ _ (Below.refl _ _) (by simp)⟩
          · have gg91:=sj hA 91 (hv.at 20 rfl (ha 20 (by decide)))
            rw [if_pos (by rfl)]
            have hF:=hK _ w' ⟨hv.put 21 35 106 rfl rfl rfl,hr.nil⟩
            clear hv hr ha hK hA hli;go_simp;exact hF
          · have gg106:=sj hA 106 (hv.at 21 rfl (ha 35 (by decide)))
            rw [if_pos (by rfl)]
            have hF:=hK _ w' ⟨hv.put 22 36 107 rfl rfl rfl,hr.nil⟩
            clear hv hr ha hK hA hli;go_simp;exact hF
          iterate 13
           · have g107:=si hA 107 (hv.at 22 rfl (ha 36 (by decide)))
             have gw:=slot_bool g107
             rw [if_neg (by simp [Region.wanted,yielded,gw])]
             exact hK undef w' ⟨hv.step _ _ _ (by simp),hr.step _ _ _ (Below.refl _ _) (by simp)⟩
          · have gg107:=sj hA 107 (hv.at 22 rfl (ha 36 (by decide)))
            rw [if_pos (by rfl)]
            have hF:=hK _ w' ⟨hv.put 23 50 121 rfl rfl rfl,hr.nil⟩
            clear hv hr ha hK hA hli;go_simp;exact hF
        · intro lz fz w6 hall ⟨hv,hq⟩
          have h121:=hv.at 23 rfl (hall 50 (by decide))
          have hbR:=hq.1
          clear hv hq hall
          simp only [mixF,List.contains_cons,List.contains_nil]
          go_simp
          have HBF:=Lib.hid (HK.out _ (HB.out.trans (hbR.mono HB.out.size))).2.2.2.2
          clear hbR
          go_wp2_with fail
          go_ret
          exact ⟨by rw [HRS.out];rfl,HBF.out⟩
       have e5:(m != y.bef)=false:=by simp [h5]
       by_cases h6:x.hgt=y.hgt - 1
       case neg =>
        have e6:(x.hgt != y.hgt - 1)=true:=by simp [h6]
        have HRS:=Lib.hid (HNO.out (fun hh=>h6 (HBH.out.1 hh).2.1))
        clear h5 h6
        go_upto_region 12 with (fail)
        refine wp_region_light (by kernel_rfl) (fun lz fz wz=>Vals [(0,71,(.int .i64 (g:Int))),(1,72,(.int .i64 (j:Int))),(2,73,(.int .i64 ((j:Int) - 1))),(3,74,(.bool true)),(4,75,(.bool false)),(5,76,(.bool false)),(6,77,(.pointer (some ⟨w.heap.size,1,none⟩))),(7,78,(.slice (some ⟨b,off,none⟩) k c2)),(8,79,(.int .i64 (g:Int))),(9,80,(.pointer (some ⟨b,off+g*6,none⟩))),(10,81,(.agg #[.int .i64 x.bef,.int .i64 x.hgt,.int .i64 x.view,Value.slice a' n' c',.int .i64 x.root,.int .i64 x.effs])),(11,82,(.int .i64 m)),(12,83,(.pointer (some ⟨w.heap.size,1,none⟩))),(13,84,(.slice (some ⟨b,off,none⟩) k c2)),(14,85,(.int .i64 (j:Int))),(15,86,(.pointer (some ⟨b,off+j*6,none⟩))),(16,87,(.pointer (some ⟨b,off+j*6,none⟩))),(17,88,(.int .i64 y.bef)),(18,89,(.bool false)),(19,90,(.bool false)),(20,91,(.bool false)),(21,92,(.pointer (some ⟨w.heap.size,1,none⟩))),(22,93,(.slice (some ⟨b,off,none⟩) k c2)),(23,94,(.int .i64 (g:Int))),(24,95,(.pointer (some ⟨b,off+g*6,none⟩))),(25,96,(.pointer (some ⟨b,off+g*6+1,none⟩))),(26,97,(.int .i64 x.hgt)),(27,98,(.pointer (some ⟨w.heap.size,1,none⟩))),(28,99,(.slice (some ⟨b,off,none⟩) k c2)),(29,100,(.int .i64 (j:Int))),(30,101,(.pointer (some ⟨b,off+j*6,none⟩))),(31,102,(.pointer (some ⟨b,off+j*6+1,none⟩))),(32,103,(.int .i64 y.hgt)),(33,104,(.int .i64 (y.hgt - 1))),(34,105,(.bool true)),(35,106,(.bool true)),(36,107,(.bool true)),(50,121,(.bool true))] lz fz∧Facts wr [] lz fz wz) 130 rfl [71,72,73,74,75,76,77,78,79,80,81,82,83,84,85,86,87,88,89,90,91,92,93,94,95,96,97,98,99,100,101,102,103,104,105,106,107,108,109,110,111,112,113,114,115,116,117,118,119,120,121] (by kernel_rfl) (by kernel_rfl) (by kernel_rfl) (fun f=>⟨Vals.nothing _ f,Facts.nothing _ _ f⟩) ?_ ?_
        · intro i hi
          rcases (by have:i < 51:=hi;omega:i=0∨i=1∨i=2∨i=3∨i=4∨i=5∨i=6∨i=7∨i=8∨i=9∨i=10∨i=11∨i=12∨i=13∨i=14∨i=15∨i=16∨i=17∨i=18∨i=19∨i=20∨i=21∨i=22∨i=23∨i=24∨i=25∨i=26∨i=27∨i=28∨i=29∨i=30∨i=31∨i=32∨i=33∨i=34∨i=35∨i=36∨i=37∨i=38∨i=39∨i=40∨i=41∨i=42∨i=43∨i=44∨i=45∨i=46∨i=47∨i=48∨i=49∨i=50) with rfl | rfl | rfl | rfl | rfl | rfl | rfl | rfl | rfl | rfl | rfl | rfl | rfl | rfl | rfl | rfl | rfl | rfl | rfl | rfl | rfl | rfl | rfl | rfl | rfl | rfl | rfl | rfl | rfl | rfl | rfl | rfl | rfl | rfl | rfl | rfl | rfl | rfl | rfl | rfl | rfl | rfl | rfl | rfl | rfl | rfl | rfl | rfl | rfl | rfl | rfl
          all_goals (clear hi;intro o ho lz fz w' A ⟨hv,hr⟩ hli ha hA K hK;obtain rfl:=Option.some.inj ho;clear ho)
          · have gg5:=so hA 5 _ rfl
            simp only [List.getD_cons_succ,List.getD_cons_zero] at gg5
            rw [if_pos (by rfl)]
            have hF:=hK _ w' ⟨hv.put 0 0 71 rfl rfl rfl,hr.nil⟩
            clear hv hr ha hK hA hli;go_simp;exact hF
          · have gg4:=so hA 4 _ rfl
            simp only [List.getD_cons_succ,List.getD_cons_zero] at gg4
            rw [if_pos (by rfl)]
            have hF:=hK _ w' ⟨hv.put 1 1 72 rfl rfl rfl,hr.nil⟩
            clear hv hr ha hK hA hli;go_simp;exact hF
          · have gg72:=sj hA 72 (hv.at 1 rfl (ha 1 (by decide)))
            rw [if_pos (by rfl)]
            have hF:=hK _ w' ⟨hv.put 2 2 73 rfl rfl rfl,hr.nil⟩
            clear hv hr ha hK hA hli;go_simp;exact hF
          · have gg71:=sj hA 71 (hv.at 0 rfl (ha 0 (by decide)))
            have gg73:=sj hA 73 (hv.at 2 rfl (ha 2 (by decide)))
            rw [if_pos (by rfl)]
            clear hA
            go_simp
            refine (l1In_spec _ _ _ _).mono ?_
            rintro e9 w9 ⟨rfl,rfl⟩
            rw [e4]
            have hb9:=Below.refl w9.heap.size w9
            exact hK (.bool true) w9 ⟨hv.step 3 74 _ (by simp),hr.step 3 74 _ hb9 (by simp)⟩
          · have gg74:=sj hA 74 (hv.at 3 rfl (ha 3 (by decide)))
            rw [if_pos (by rfl)]
            have hF:=hK _ w' ⟨hv.put 4 4 75 rfl rfl rfl,hr.nil⟩
            clear hv hr ha hK hA hli;go_simp;exact hF
          · have gg75:=sj hA 75 (hv.at 4 rfl (ha 4 (by decide)))
            rw [if_pos (by rfl)]
            have hF:=hK _ w' ⟨hv.put 5 5 76 rfl rfl rfl,hr.nil⟩
            clear hv hr ha hK hA hli;go_simp;exact hF
          · have gg1:=so hA 1 _ rfl
            simp only [List.getD_cons_succ,List.getD_cons_zero] at gg1
            have g76:=si hA 76 (hv.at 5 rfl (ha 5 (by decide)))
            have gg76:=slot_get g76
            rw [if_pos (by simp [Region.wanted,yielded,slot_bool g76])]
            have hF:=hK _ w' ⟨hv.put 6 6 77 rfl rfl rfl,hr.nil⟩
            clear hv hr ha hK hA hli;go_simp;exact hF
          · have gg77:=sj hA 77 (hv.at 6 rfl (ha 6 (by decide)))
            have g76:=si hA 76 (hv.at 5 rfl (ha 5 (by decide)))
            have gg76:=slot_get g76
            rw [if_pos (by simp [Region.wanted,yielded,slot_bool g76])]
            obtain ⟨⟨kx0,kx1,kx2⟩,⟨kg0,kg1,kg2,kg3,kg4,kg5⟩,kk0,kk1,kk2⟩:=HKP.out w' hr.1
            have hF:=hK _ w' ⟨hv.put 7 7 78 rfl rfl rfl,hr.nil⟩
            clear hv hr ha hK hA hli;go_simp;exact hF
          · have gg5:=so hA 5 _ rfl
            simp only [List.getD_cons_succ,List.getD_cons_zero] at gg5
            have g76:=si hA 76 (hv.at 5 rfl (ha 5 (by decide)))
            have gg76:=slot_get g76
            rw [if_pos (by simp [Region.wanted,yielded,slot_bool g76])]
            have hF:=hK _ w' ⟨hv.put 8 8 79 rfl rfl rfl,hr.nil⟩
            clear hv hr ha hK hA hli;go_simp;exact hF
          · have gg78:=sj hA 78 (hv.at 7 rfl (ha 7 (by decide)))
            have gg79:=sj hA 79 (hv.at 8 rfl (ha 8 (by decide)))
            have g76:=si hA 76 (hv.at 5 rfl (ha 5 (by decide)))
            have gg76:=slot_get g76
            rw [if_pos (by simp [Region.wanted,yielded,slot_bool g76])]
            have hF:=hK _ w' ⟨hv.put 9 9 80 rfl rfl rfl,hr.nil⟩
            clear hv hr ha hK hA hli;go_simp;exact hF
          · have gg80:=sj hA 80 (hv.at 9 rfl (ha 9 (by decide)))
            have g76:=si hA 76 (hv.at 5 rfl (ha 5 (by decide)))
            have gg76:=slot_get g76
            rw [if_pos (by simp [Region.wanted,yielded,slot_bool g76])]
            obtain ⟨⟨kx0,kx1,kx2⟩,⟨kg0,kg1,kg2,kg3,kg4,kg5⟩,kk0,kk1,kk2⟩:=HKP.out w' hr.1
            have hF:=hK _ w' ⟨hv.put 10 10 81 rfl rfl rfl,hr.nil⟩
            clear hv hr ha hK hA hli;go_simp;exact hF
          · have gg81:=sj hA 81 (hv.at 10 rfl (ha 10 (by decide)))
            have g76:=si hA 76 (hv.at 5 rfl (ha 5 (by decide)))
            have gg76:=slot_get g76
            rw [if_pos (by simp [Region.wanted,yielded,slot_bool g76])]
            clear hA
            go_simp
            refine (blockSum_specV x a' n' c' _ (HR.out.below hr.1)).mono ?_
            rintro e9 w9 ⟨rfl,hb9⟩
            rw [HME.out]
            exact hK (.int .i64 m) w9 ⟨hv.step 11 82 _ (by simp),hr.step 11 82 _ hb9 (by simp)⟩
          · have gg1:=so hA 1 _ rfl
            simp only [List.getD_cons_succ,List.getD_cons_zero] at gg1
            have g76:=si hA 76 (hv.at 5 rfl (ha 5 (by decide)))
            have gg76:=slot_get g76
            rw [if_pos (by simp [Region.wanted,yielded,slot_bool g76])]
            have hF:=hK _ w' ⟨hv.put 12 12 83 rfl rfl rfl,hr.nil⟩
            clear hv hr ha hK hA hli;go_simp;exact hF
          · have gg83:=sj hA 83 (hv.at 12 rfl (ha 12 (by decide)))
            have g76:=si hA 76 (hv.at 5 rfl (ha 5 (by decide)))
            have gg76:=slot_get g76
            rw [if_pos (by simp [Region.wanted,yielded,slot_bool g76])]
            obtain ⟨⟨kx0,kx1,kx2⟩,⟨kg0,kg1,kg2,kg3,kg4,kg5⟩,kk0,kk1,kk2⟩:=HKP.out w' hr.1
            have hF:=hK _ w' ⟨hv.put 13 13 84 rfl rfl rfl,hr.nil⟩
            clear hv hr ha hK hA hli;go_simp;exact hF
          · have gg4:=so hA 4 _ rfl
            simp only [List.getD_cons_succ,List.getD_cons_zero] at gg4
            have g76:=si hA 76 (hv.at 5 rfl (ha 5 (by decide)))
            have gg76:=slot_get g76
            rw [if_pos (by simp [Region.wanted,yielded,slot_bool g76])]
            have hF:=hK _ w' ⟨hv.put 14 14 85 rfl rfl rfl,hr.nil⟩
            clear hv hr ha hK hA hli;go_simp;exact hF
          · have gg84:=sj hA 84 (hv.at 13 rfl (ha 13 (by decide)))
            have gg85:=sj hA 85 (hv.at 14 rfl (ha 14 (by decide)))
            have g76:=si hA 76 (hv.at 5 rfl (ha 5 (by decide)))
            have gg76:=slot_get g76
            rw [if_pos (by simp [Region.wanted,yielded,slot_bool g76])]
            have hF:=hK _ w' ⟨hv.put 15 15 86 rfl rfl rfl,hr.nil⟩
            clear hv hr ha hK hA hli;go_simp;exact hF
          · have gg86:=sj hA 86 (hv.at 15 rfl (ha 15 (by decide)))
            have g76:=si hA 76 (hv.at 5 rfl (ha 5 (by decide)))
            have gg76:=slot_get g76
            rw [if_pos (by simp [Region.wanted,yielded,slot_bool g76])]
            have hF:=hK _ w' ⟨hv.put 16 16 87 rfl rfl rfl,hr.nil⟩
            clear hv hr ha hK hA hli;go_simp;exact hF
          · have gg87:=sj hA 87 (hv.at 16 rfl (ha 16 (by decide)))
            have g76:=si hA 76 (hv.at 5 rfl (ha 5 (by decide)))
            have gg76:=slot_get g76
            rw [if_pos (by simp [Region.wanted,yielded,slot_bool g76])]
            obtain ⟨⟨kx0,kx1,kx2⟩,⟨kg0,kg1,kg2,kg3,kg4,kg5⟩,kk0,kk1,kk2⟩:=HKP.out w' hr.1
            have hF:=hK _ w' ⟨hv.put 17 17 88 rfl rfl rfl,hr.nil⟩
            clear hv hr ha hK hA hli;go_simp;exact hF
          · have gg82:=sj hA 82 (hv.at 11 rfl (ha 11 (by decide)))
            have gg88:=sj hA 88 (hv.at 17 rfl (ha 17 (by decide)))
            have g76:=si hA 76 (hv.at 5 rfl (ha 5 (by decide)))
            have gg76:=slot_get g76
            rw [if_pos (by simp [Region.wanted,yielded,slot_bool g76])]
            have hF:=hK _ w' ⟨hv.put 18 18 89 rfl rfl rfl,hr.nil⟩
            clear hv hr ha hK hA hli;go_simp;exact hF
          · have gg76:=sj hA 76 (hv.at 5 rfl (ha 5 (by decide)))
            have gg89:=sj hA 89 (hv.at 18 rfl (ha 18 (by decide)))
            rw [if_pos (by rfl)]
            have hF:=hK _ w' ⟨hv.put 19 19 90 rfl rfl rfl,hr.nil⟩
            clear hv hr ha hK hA hli;go_simp;exact hF
          · have gg90:=sj hA 90 (hv.at 19 rfl (ha 19 (by decide)))
            rw [if_pos (by rfl)]
            have hF:=hK _ w' ⟨hv.put 20 20 91 rfl rfl rfl,hr.nil⟩
            clear hv hr ha hK hA hli;go_simp;exact hF
          · have gg1:=so hA 1 _ rfl
            simp only [List.getD_cons_succ,List.getD_cons_zero] at gg1
            have g91:=si hA 91 (hv.at 20 rfl (ha 20 (by decide)))
            have gg91:=slot_get g91
            rw [if_pos (by simp [Region.wanted,yielded,slot_bool g91])]
            have hF:=hK _ w' ⟨hv.put 21 21 92 rfl rfl rfl,hr.nil⟩
            clear hv hr ha hK hA hli;go_simp;exact hF
          · have gg92:=sj hA 92 (hv.at 21 rfl (ha 21 (by decide)))
            have g91:=si hA 91 (hv.at 20 rfl (ha 20 (by decide)))
            have gg91:=slot_get g91
            rw [if_pos (by simp [Region.wanted,yielded,slot_bool g91])]
            obtain ⟨⟨kx0,kx1,kx2⟩,⟨kg0,kg1,kg2,kg3,kg4,kg5⟩,kk0,kk1,kk2⟩:=HKP.out w' hr.1
            have hF:=hK _ w' ⟨hv.put 22 22 93 rfl rfl rfl,hr.nil⟩
            clear hv hr ha hK hA hli;go_simp;exact hF
          · have gg5:=so hA 5 _ rfl
            simp only [List.getD_cons_succ,List.getD_cons_zero] at gg5
            have g91:=si hA 91 (hv.at 20 rfl (ha 20 (by decide)))
            have gg91:=slot_get g91
            rw [if_pos (by simp [Region.wanted,yielded,slot_bool g91])]
            have hF:=hK _ w' ⟨hv.put 23 23 94 rfl rfl rfl,hr.nil⟩
            clear hv hr ha hK hA hli;go_simp;exact hF
          · have gg93:=sj hA 93 (hv.at 22 rfl (ha 22 (by decide)))
            have gg94:=sj hA 94 (hv.at 23 rfl (ha 23 (by decide)))
            have g91:=si hA 91 (hv.at 20 rfl (ha 20 (by decide)))
            have gg91:=slot_get g91
            rw [if_pos (by simp [Region.wanted,yielded,slot_bool g91])]
            have hF:=hK _ w' ⟨hv.put 24 24 95 rfl rfl rfl,hr.nil⟩
            clear hv hr ha hK hA hli;go_simp;exact hF
          · have gg95:=sj hA 95 (hv.at 24 rfl (ha 24 (by decide)))
            have g91:=si hA 91 (hv.at 20 rfl (ha 20 (by decide)))
            have gg91:=slot_get g91
            rw [if_pos (by simp [Region.wanted,yielded,slot_bool g91])]
            have hF:=hK _ w' ⟨hv.put 25 25 96 rfl rfl rfl,hr.nil⟩
            clear hv hr ha hK hA hli;go_simp;exact hF
          · have gg96:=sj hA 96 (hv.at 25 rfl (ha 25 (by decide)))
            have g91:=si hA 91 (hv.at 20 rfl (ha 20 (by decide)))
            have gg91:=slot_get g91
            rw [if_pos (by simp [Region.wanted,yielded,slot_bool g91])]
            obtain ⟨⟨kx0,kx1,kx2⟩,⟨kg0,kg1,kg2,kg3,kg4,kg5⟩,kk0,kk1,kk2⟩:=HKP.out w' hr.1
            have hF:=hK _ w' ⟨hv.put 26 26 97 rfl rfl rfl,hr.nil⟩
            clear hv hr ha hK hA hli;go_simp;exact hF
          · have gg1:=so hA 1 _ rfl
            simp only [List.getD_cons_succ,List.getD_cons_zero] at gg1
            have g91:=si hA 91 (hv.at 20 rfl (ha 20 (by decide)))
            have gg91:=slot_get g91
            rw [if_pos (by simp [Region.wanted,yielded,slot_bool g91])]
            have hF:=hK _ w' ⟨hv.put 27 27 98 rfl rfl rfl,hr.nil⟩
            clear hv hr ha hK hA hli;go_simp;exact hF
          · have gg98:=sj hA 98 (hv.at 27 rfl (ha 27 (by decide)))
            have g91:=si hA 91 (hv.at 20 rfl (ha 20 (by decide)))
            have gg91:=slot_get g91
            rw [if_pos (by simp [Region.wanted,yielded,slot_bool g91])]
            obtain ⟨⟨kx0,kx1,kx2⟩,⟨kg0,kg1,kg2,kg3,kg4,kg5⟩,kk0,kk1,kk2⟩:=HKP.out w' hr.1
            have hF:=hK _ w' ⟨hv.put 28 28 99 rfl rfl rfl,hr.nil⟩
            clear hv hr ha hK hA hli;go_simp;exact hF
          · have gg4:=so hA 4 _ rfl
            simp only [List.getD_cons_succ,List.getD_cons_zero] at gg4
            have g91:=si hA 91 (hv.at 20 rfl (ha 20 (by decide)))
            have gg91:=slot_get g91
            rw [if_pos (by simp [Region.wanted,yielded,slot_bool g91])]
            have hF:=hK _ w' ⟨hv.put 29 29 100 rfl rfl rfl,hr.nil⟩
            clear hv hr ha hK hA hli;go_simp;exact hF
          · have gg99:=sj hA 99 (hv.at 28 rfl (ha 28 (by decide)))
            have gg100:=sj hA 100 (hv.at 29 rfl (ha 29 (by decide)))
            have g91:=si hA 91 (hv.at 20 rfl (ha 20 (by decide)))
            have gg91:=slot_get g91
            rw [if_pos (by simp [Region.wanted,yielded,slot_bool g91])]
            have hF:=hK _ w' ⟨hv.put 30 30 101 rfl rfl rfl,hr.nil⟩
            clear hv hr ha hK hA hli;go_simp;exact hF
          · have gg101:=sj hA 101 (hv.at 30 rfl (ha 30 (by decide)))
            have g91:=si hA 91 (hv.at 20 rfl (ha 20 (by decide)))
            have gg91:=slot_get g91
            rw [if_pos (by simp [Region.wanted,yielded,slot_bool g91])]
            have hF:=hK _ w' ⟨hv.put 31 31 102 rfl rfl rfl,hr.nil⟩
            clear hv hr ha hK hA hli;go_simp;exact hF
          · have gg102:=sj hA 102 (hv.at 31 rfl (ha 31 (by decide)))
            have g91:=si hA 91 (hv.at 20 rfl (ha 20 (by decide)))
            have gg91:=slot_get g91
            rw [if_pos (by simp [Region.wanted,yielded,slot_bool g91])]
            obtain ⟨⟨kx0,kx1,kx2⟩,⟨kg0,kg1,kg2,kg3,kg4,kg5⟩,kk0,kk1,kk2⟩:=HKP.out w' hr.1
            have hF:=hK _ w' ⟨hv.put 32 32 103 rfl rfl rfl,hr.nil⟩
            clear hv hr ha hK hA hli;go_simp;exact hF
          · have gg103:=sj hA 103 (hv.at 32 rfl (ha 32 (by decide)))
            have g91:=si hA 91 (hv.at 20 rfl (ha 20 (by decide)))
            have gg91:=slot_get g91
            rw [if_pos (by simp [Region.wanted,yielded,slot_bool g91])]
            have hF:=hK _ w' ⟨hv.put 33 33 104 rfl rfl rfl,hr.nil⟩
            clear hv hr ha hK hA hli;go_simp;exact hF
          · have gg97:=sj hA 97 (hv.at 26 rfl (ha 26 (by decide)))
            have gg104:=sj hA 104 (hv.at 33 rfl (ha 33 (by decide)))
            have g91:=si hA 91 (hv.at 20 rfl (ha 20 (by decide)))
            have gg91:=slot_get g91
            rw [if_pos (by simp [Region.wanted,yielded,slot_bool g91])]
            have hF:=hK _ w' ⟨hv.put 34 34 105 rfl rfl rfl,hr.nil⟩
            clear hv hr ha hK hA hli;go_simp;exact hF
          · have gg91:=sj hA 91 (hv.at 20 rfl (ha 20 (by decide)))
            have gg105:=sj hA 105 (hv.at 34 rfl (ha 34 (by decide)))
            rw [if_pos (by rfl)]
            have hF:=hK _ w' ⟨hv.put 35 35 106 rfl rfl rfl,hr.nil⟩
            clear hv hr ha hK hA hli;go_simp;exact hF
          · have gg106:=sj hA 106 (hv.at 35 rfl (ha 35 (by decide)))
            rw [if_pos (by rfl)]
            have hF:=hK _ w' ⟨hv.put 36 36 107 rfl rfl rfl,hr.nil⟩
            clear hv hr ha hK hA hli;go_simp;exact hF
          iterate 13
           · have g107:=si hA 107 (hv.at 36 rfl (ha 36 (by decide)))
             have gw:=slot_bool g107
             rw [if_neg (by simp [Region.wanted,yielded,gw])]
             exact hK undef w' ⟨hv.step _ _ _ (by simp),hr.step _ _ _ (Below.refl _ _) (by simp)⟩
          · have gg107:=sj hA 107 (hv.at 36 rfl (ha 36 (by decide)))
            rw [if_pos (by rfl)]
            have hF:=hK _ w' ⟨hv.put 37 50 121 rfl rfl rfl,hr.nil⟩
            clear hv hr ha hK hA hli;go_simp;exact hF
        · intro lz fz w6 hall ⟨hv,hq⟩
          have h121:=hv.at 37 rfl (hall 50 (by decide))
          have hbR:=hq.1
          clear hv hq hall
          simp only [mixF,List.contains_cons,List.contains_nil]
          go_simp
          have HBF:=Lib.hid (HK.out _ (HB.out.trans (hbR.mono HB.out.size))).2.2.2.2
          clear hbR
          go_wp2_with fail
          go_ret
          exact ⟨by rw [HRS.out];rfl,HBF.out⟩
       have e6:(x.hgt != y.hgt - 1)=false:=by simp [h6]
       by_cases h7:y.view≤x.view
       case pos =>
        have e7:decide (x.view ≥ y.view)=true:=by simp;exact h7
        have e8:decide (y.view≤x.view)=true:=by simp;exact h7
        have HRS:=Lib.hid (HNO.out (fun hh=>by have:=(HBH.out.1 hh).2.2;omega))
        clear h5 h6 h7
        have hkp0:=HKP.out wr (Below.refl _ _)
        go_upto_region 12 with (fail)
        go_region_held3 (fun w'=>(w'.cell? ⟨w.heap.size,0,none⟩=some (.slice a1 n1 c1)∧w'.cell? ⟨w.heap.size,1,none⟩=some (.slice (some ⟨b,off,none⟩) k c2)∧w'.cell? ⟨w.heap.size,2,none⟩=some (.slice (some ⟨b3,off3,none⟩) k c3))∧(w'.cell? ⟨b,off+g*6,none⟩=some (.int .i64 x.bef)∧w'.cell? ⟨b,off+g*6+1,none⟩=some (.int .i64 x.hgt)∧w'.cell? ⟨b,off+g*6+2,none⟩=some (.int .i64 x.view)∧w'.cell? ⟨b,off+g*6+3,none⟩=some (Value.slice a' n' c')∧w'.cell? ⟨b,off+g*6+4,none⟩=some (.int .i64 x.root)∧w'.cell? ⟨b,off+g*6+5,none⟩=some (.int .i64 x.effs))∧w'.cell? ⟨b,off+j*6,none⟩=some (.int .i64 y.bef)∧w'.cell? ⟨b,off+j*6+1,none⟩=some (.int .i64 y.hgt)∧w'.cell? ⟨b,off+j*6+2,none⟩=some (.int .i64 y.view)) (first | exact hkp0 | exact hkp | go_keep)
         (first | (go_at_call 84;refine (l1In_spec _ _ _ _).mono ?_;rintro e1 wq ⟨rfl,rfl⟩;rw [e4]) | (go_at_call 86;refine (blockSum_specV x a' n' c' wr.drew (show RowA wr.drew _ _ _ from HR.out)).mono ?_;rintro e1 w7 ⟨rfl,hb7'⟩;have hb7:=(Below.refl wr.heap.size wr).drew.trans hb7';have hkp:=HKP.out _ hb7;rw [HME.out]))
        have HBF:=Lib.hid (HK.out _ (HB.out.trans (hb7.mono HB.out.size))).2.2.2.2
        clear hb7 hb7' hkp hkp0
        go_wp2_with fail
        go_ret
        exact ⟨by rw [HRS.out];rfl,HBF.out⟩
       have e7:decide (x.view ≥ y.view)=false:=by simp;omega
       have e8:decide (y.view≤x.view)=false:=by simp;omega
       have HRS:=Lib.hid (HNX.out (HBH.out.2 ⟨h5,h6,by omega⟩))
       clear h5 h6 h7
       have hkp0:=HKP.out wr (Below.refl _ _)
       go_upto_region 12 with (fail)
       go_region_held3 (fun w'=>(w'.cell? ⟨w.heap.size,0,none⟩=some (.slice a1 n1 c1)∧w'.cell? ⟨w.heap.size,1,none⟩=some (.slice (some ⟨b,off,none⟩) k c2)∧w'.cell? ⟨w.heap.size,2,none⟩=some (.slice (some ⟨b3,off3,none⟩) k c3))∧(w'.cell? ⟨b,off+g*6,none⟩=some (.int .i64 x.bef)∧w'.cell? ⟨b,off+g*6+1,none⟩=some (.int .i64 x.hgt)∧w'.cell? ⟨b,off+g*6+2,none⟩=some (.int .i64 x.view)∧w'.cell? ⟨b,off+g*6+3,none⟩=some (Value.slice a' n' c')∧w'.cell? ⟨b,off+g*6+4,none⟩=some (.int .i64 x.root)∧w'.cell? ⟨b,off+g*6+5,none⟩=some (.int .i64 x.effs))∧w'.cell? ⟨b,off+j*6,none⟩=some (.int .i64 y.bef)∧w'.cell? ⟨b,off+j*6+1,none⟩=some (.int .i64 y.hgt)∧w'.cell? ⟨b,off+j*6+2,none⟩=some (.int .i64 y.view)) (first | exact hkp0 | exact hkp | go_keep)
        (first | (go_at_call 84;refine (l1In_spec _ _ _ _).mono ?_;rintro e1 wq ⟨rfl,rfl⟩;rw [e4]) | (go_at_call 86;refine (blockSum_specV x a' n' c' wr.drew (show RowA wr.drew _ _ _ from HR.out)).mono ?_;rintro e1 w7 ⟨rfl,hb7'⟩;have hb7:=(Below.refl wr.heap.size wr).drew.trans hb7';have hkp:=HKP.out _ hb7;rw [HME.out]))
       have HBR:=Lib.hid (HB.out.trans (hb7.mono HB.out.size))
       clear hb7 hb7' hkp hkp0
       go_wp2_with fail
       go_roundw
       case rel=>exact ⟨j+1,by omega,by omega,by go_num,HRS.out,HBR.out⟩
       case measure=>simp [intOf];omega
     · obtain rfl:j=k:=by omega
       have HBT:=Lib.hid HTO.out
       obtain ⟨b,off,rfl,hbk⟩:=hr.at 0 (by omega)
       have hE:=(tre_end (t:=t) H0.out (by rw [HL2.out];exact H1.out) (by rw [HL3.out,HL2.out]) H3.out (by rw [HL2.out];exact HFT.out) (by rw [HL2.out];exact HTO.out))
       obtain ⟨q,hq⟩:∃ q,decide (blkAt t.blocks 0=firstM t.base)=q:=⟨_,rfl⟩
       rw [hq] at hE
       have HEND:=Lib.hid hE
       clear hE
       obtain ⟨x,hx⟩:∃ x,x=t.blocks.getD 0 noBlk:=⟨_,rfl⟩
       rw [← hx] at hbk
       obtain ⟨g0,g1,g2,⟨v,g3,a',n',c',rfl,ra,-,-⟩,g4,g5⟩:=hbk
       simp only [Nat.zero_mul,Nat.add_zero] at g0 g1 g2 g3 g4 g5
       obtain ⟨y,hy⟩:∃ y,y=firstM t.base:=⟨_,rfl⟩
       have hyl:y.acts.length≤4000000:=by rw [hy,firstM_yes H0.out];simp
       have HY:=Lib.hid hy
       have HYL:=Lib.hid hyl
       have HQ:Hid (decide (x=y)=q):=Lib.hid (by rw [← hq];subst hx;subst hy;rfl)
       clear hy hyl hq hx
       have hzw:=World.block_lt_of_cell? wr ⟨w.heap.size,0,none⟩ x0
       have hbw:=World.block_lt_of_cell? wr ⟨b,off,none⟩ g0
       have HKP:Hid (∀ W':World,Below wr.heap.size wr W'→((W'.cell? ⟨w.heap.size,0,none⟩=some (.slice a1 n1 c1)∧W'.cell? ⟨w.heap.size,1,none⟩=some (.slice (some ⟨b,off,none⟩) j c2)∧W'.cell? ⟨w.heap.size,2,none⟩=some (.slice (some ⟨b3,off3,none⟩) j c3))∧(W'.cell? ⟨b,off,none⟩=some (.int .i64 x.bef)∧W'.cell? ⟨b,off+1,none⟩=some (.int .i64 x.hgt)∧W'.cell? ⟨b,off+2,none⟩=some (.int .i64 x.view)∧W'.cell? ⟨b,off+3,none⟩=some (Value.slice a' n' c')∧W'.cell? ⟨b,off+4,none⟩=some (.int .i64 x.root)∧W'.cell? ⟨b,off+5,none⟩=some (.int .i64 x.effs)))∧RowA W' a' n' x.acts∧RowE W' a1 n1 t.base):=Lib.hid (fun W' hb=>⟨⟨⟨tr_cell hb hzw x0,tr_cell hb hzw x1,tr_cell hb hzw x2⟩,tr_cell hb hbw g0,tr_cell hb hbw g1,tr_cell hb hbw g2,tr_cell hb hbw g3,tr_cell hb hbw g4,tr_cell hb hbw g5⟩,ra.below hb,(HK.out _ (HB.out.trans (hb.mono HB.out.size))).2.1⟩)
       clear hzw hbw g0 g1 g2 g3 g4 g5 ra x0 x1 x2 hr hi3 hbf
       have hkp0:=(HKP.out wr (Below.refl _ _)).1
       have i1:(0:Int) < (j:Int):=by omega
       go_upto_region 14 with (fail)
       go_region_held3 (fun W'=>((W'.cell? ⟨w.heap.size,0,none⟩=some (.slice a1 n1 c1)∧W'.cell? ⟨w.heap.size,1,none⟩=some (.slice (some ⟨b,off,none⟩) j c2)∧W'.cell? ⟨w.heap.size,2,none⟩=some (.slice (some ⟨b3,off3,none⟩) j c3))∧(W'.cell? ⟨b,off,none⟩=some (.int .i64 x.bef)∧W'.cell? ⟨b,off+1,none⟩=some (.int .i64 x.hgt)∧W'.cell? ⟨b,off+2,none⟩=some (.int .i64 x.view)∧W'.cell? ⟨b,off+3,none⟩=some (Value.slice a' n' c')∧W'.cell? ⟨b,off+4,none⟩=some (.int .i64 x.root)∧W'.cell? ⟨b,off+5,none⟩=some (.int .i64 x.effs)))) (first | exact hkp0 | exact hkp | exact hkp2 | go_keep)
        (first | (go_at_call 88;refine (firstBlock_spec _ _ _ t.base wr.drew (show RowE wr.drew _ _ t.base from (HKP.out wr (Below.refl _ _)).2.2)).mono ?_;rintro e1 w7 ⟨v7,rfl,ho7,hwa7,-,hb7'⟩;rw [← HY.out] at ho7 hwa7;have hb7:=(Below.refl wr.heap.size wr).drew.trans hb7';have hkp:=(HKP.out _ hb7).1;obtain ⟨av,cv,rfl,hrv,-⟩:=rowA_of_owns ho7 HYL.out hwa7;simp only [blkV];rw [← HY.out]) | (go_at_call 87;refine (l13SameBlock_specV x y a' av n' c' _ cv w7 (HKP.out _ hb7).2.1 hrv).mono ?_;rintro e1 w8 ⟨rfl,hb8'⟩;have hb8:=hb7.trans (hb8'.mono hb7.size);have hkp2:=(HKP.out _ hb8).1;rw [HQ.out]))
       have HBF:=Lib.hid (HK.out _ (HB.out.trans (hb8.mono HB.out.size))).2.2.2.2
       clear hb8 hb8' hb7 hb7' hkp hkp2 hkp0
       go_wp2_with fail
       go_ret
       exact ⟨by rw [HEND.out];rfl,HBF.out⟩
end Go.Proofs.YtpnjgmgmakmgeaaGreat

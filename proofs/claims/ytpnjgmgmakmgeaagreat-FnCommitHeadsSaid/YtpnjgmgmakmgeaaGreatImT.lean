/- Texts of ours that stand together: ImplTr2, ImplTr3, ImplTr4 -/
import Derived.Test.YtpnjgmgmakmgeaaGreatTrP
import Derived.Test.YtpnjgmgmakmgeaaGreatTrI
import Derived.Test.YtpnjgmgmakmgeaaGreatBkI
import Derived.Test.YtpnjgmgmakmgeaaGreatRegO
import Derived.Deep.RegionHeld3
import Derived.Deep.RegionLaw
import Derived.Deep.Cut
import Derived.Test.YtpnjgmgmakmgeaaGreatTrM
import Derived.Test.YtpnjgmgmakmgeaaGreatImplSer
import Derived.Test.YtpnjgmgmakmgeaaGreatTwo
/- The contract of the program's indexedTree.put (gen16/put.py). -/
namespace Go.Proofs.YtpnjgmgmakmgeaaGreat
open Go.RowKit Go.Maps
set_option linter.unusedVariables false
set_option linter.unusedSimpArgs false
theorem infoBlkP:(Tryz.prog.info? 37).map (fun i=>(i.zero,i.size,i.bytes))=some (some (.agg #[.int .i64 0,.int .i64 0,.int .i64 0,.slice none 0 0,.int .i64 0,.int .i64 0]),6,64):=by kernel_rfl
theorem infoIntP:(Tryz.prog.info? 3).map (fun i=>(i.zero,i.size,i.bytes))=some (some (.int .i64 0),1,8):=by kernel_rfl
def tTreP:TreT:=⟨142,37,113,3⟩
theorem MapF.updRun {w:World} {b k:Nat} {f:Int→Option Int} (hf:MapF w b k f) (hk:k < 1000) (key val:Int) (hkey:(Lit.int .i64 key).wf=true) (hval:(Lit.int .i64 val).wf=true) :
  ∃ w',(Instr.mapUpdate 107 (.map (some b)) (.int .i64 key) (.int .i64 val)).run Tryz.prog w = .ok () w'∧MapF w' b (k+1) (updF f key val)∧w.grownBy w' (some b):=by
 obtain ⟨D,hown,hD⟩:=hf
 obtain ⟨w',h1,h2,h3⟩:=hown.update lawInt Tryz.underlying107 (by unfold maxLen;omega) (keyOf_int_mk Tryz.underlying3 hkey) (plainElem_int Tryz.underlying3 hval)
 exact ⟨w',h1,⟨_,h2,put_has hown.isMap hD key val⟩,h3⟩
theorem blockSum_implV (x:Blk) (a:Option Addr) (n c:Nat) (w:World) (h:RowA w a n x.acts) :
  Calls Tryz.prog 19 #[.agg #[.int .i64 x.bef,.int .i64 x.hgt,.int .i64 x.view,.slice a n c,.int .i64 x.root,.int .i64 x.effs]] w (IntB (blkSumM x) w):=blockSum_impl x.bef x.hgt x.view x.root x.effs a n c x.acts w h
theorem blockValid_implV (x:Blk) (a:Option Addr) (n c:Nat) (w:World) (h:RowA w a n x.acts) :
  Calls Tryz.prog 74 #[.agg #[.int .i64 x.bef,.int .i64 x.hgt,.int .i64 x.view,.slice a n c,.int .i64 x.root,.int .i64 x.effs]] w (BoolB (blkB x) w):=blockValid_impl x.bef x.hgt x.view x.root x.effs a n c x.acts w h
theorem putB_no {t:Tre} {b:Blk} (h:¬ PutOk t b):putB t b=false:=by rw [Bool.eq_false_iff];intro e;exact h ((putB_iff t b).1 e)
theorem putW_no {w w':World} {B Z m:Nat} {tT:TreT} {v1 v2 v3:Value} {t:Tre} {ts:List Value} {b:Blk} (h:TrIx w B Z m tT v1 v2 v3 t ts) (hb:Below w.heap.size w w') (hB:B≤w.heap.size) (hp:putB t b=false):PutW w B Z m tT v1 v2 v3 t ts b (.returned (.bool false)) w' :=
 ⟨by rw [hp],hb.mono hB,hb.size,fun _=>h.below hb,fun e=>by rw [hp] at e;cases e⟩
theorem RowA.stay {w w':World} {a:Option Addr} {n:Nat} {row:Option Nat} {l:List Acn} (h:RowA w a n l) (hg:w.grownBy w' row) (hne:0 < n→∀ p o,a=some ⟨p,o,none⟩→some p≠row):RowA w' a n l:=by
 obtain ⟨h1,h2,h3,h4⟩:=h
 refine ⟨h1,h2,fun hl=>?_,h4⟩
 obtain ⟨b',off,he,hc⟩:=h3 hl
 have hn:=hne hl b' off he
 refine ⟨b',off,he,fun i hi=>?_⟩
 obtain ⟨c1,c2,c3,c4⟩:=hc i hi
 exact ⟨World.grownBy.cell hg c1 hn,World.grownBy.cell hg c2 hn,World.grownBy.cell hg c3 hn,World.grownBy.cell hg c4 hn⟩
set_option maxRecDepth 100000 in
set_option maxHeartbeats 8000000 in
theorem put_impl (B Z m:Nat) (v1 v2 v3:Value) (t:Tre) (ts:List Value) (b:Blk) (a:Option Addr) (n c:Nat) (w:World) (h:TrIx w B Z m tTreP v1 v2 v3 t ts) (ht:treB t=true) (hr:RowA w a n b.acts) (hz:a=none→c=0) (hwf:WfB b) (hne:0 < n→∀ p o,a=some ⟨p,o,none⟩→p≠m) :
  Calls Tryz.prog 94 #[.pointer (some ⟨Z,0,none⟩),.agg #[.int .i64 b.bef,.int .i64 b.hgt,.int .i64 b.view,.slice a n c,.int .i64 b.root,.int .i64 b.effs]] w (PutW w B Z m tTreP v1 v2 v3 t ts b):=by
 have hBw:B≤w.heap.size:=Nat.le_trans h.zB (Nat.le_of_lt h.box.lt)
 obtain ⟨a2,n2,c2,rfl,hr2,-,-⟩:=h.rd.blocks
 have hl2:t.blocks.length=n2:=hr2.1
 have htk:=(treB_iff t).1 ht
 have hm14:=htk.most
 have hone:=htk.one
 have hn1:1≤n2:=by omega
 have hn14:n2≤14:=by omega
 have HTK:=Lib.hid htk
 have HLB:=Lib.hid htk.len
 have hb0:=(Below.refl w.heap.size w).alloc (Nat.le_refl _) (.cells #[.int .i64 b.bef,.int .i64 b.hgt,.int .i64 b.view,.slice a n c,.int .i64 b.root,.int .i64 b.effs] 37)
 have hA:=bkAt_new w 37 (.int .i64 b.bef) (.int .i64 b.hgt) (.int .i64 b.view) (.slice a n c) (.int .i64 b.root) (.int .i64 b.effs)
 obtain ⟨W1,hW1⟩:∃ W1,W1=w.alloc (.cells #[.int .i64 b.bef,.int .i64 b.hgt,.int .i64 b.view,.slice a n c,.int .i64 b.root,.int .i64 b.effs] 37):=⟨_,rfl⟩
 have HW1:=Lib.hid hW1
 rw [← hW1] at hb0 hA
 clear hW1
 have HK:=Lib.hid (fun (W:World) (hb:Below W1.heap.size W1 W)=>(⟨hA.below hb,(h.below hb0).below hb |>.box,(h.below hb0).below hb |>.map,(hr.below hb0).below hb,(hr2.below hb0).below hb,hb0.trans (hb.mono hb0.size)⟩:BkAt W w.heap.size (.int .i64 b.bef) (.int .i64 b.hgt) (.int .i64 b.view) (.slice a n c) (.int .i64 b.root) (.int .i64 b.effs)∧IxAt W Z v1 (.slice a2 n2 c2) v3 (.map (some m))∧MapF W m t.blocks.length (idxF t.blocks)∧RowA W a n b.acts∧RowBs W a2 n2 t.blocks∧Below w.heap.size w W))
 have HIX:=Lib.hid h
 have HBW:=Lib.hid hBw
 have HL2:=Lib.hid hl2
 have HWF:=Lib.hid hwf
 have HNE:=Lib.hid hne
 clear hne h hr hr2 hb0 hA hBw htk hm14 hone hwf hl2
 by_cases h1:n2=14
 case pos =>
  have e1:((n2:Int) == 14)=true:=by simp;omega
  have HNP:=Lib.hid (putB_no (t:=t) (b:=b) (fun hp=>hp.len (by rw [HL2.out];exact h1)))
  clear h1
  go_enter Tryz.func94,Tryz.ntmps94
  go_upto_region 1 with (fail)
  rw [← HW1.out]
  clear HW1
  obtain ⟨⟨x0,x1,x2,x3,x4,x5,-⟩,⟨y0,y1,y2,y3,-⟩,-,-,-,-⟩:=HK.out W1 (Below.refl _ _)
  have HBF:=Lib.hid (HK.out _ (Below.refl _ _)).2.2.2.2.2
  go_wp2_with fail
  go_ret
  exact putW_no HIX.out HBF.out HBW.out HNP.out
 have e1:((n2:Int) == 14)=false:=by simp;omega
 have H1:=Lib.hid h1
 clear h1
 go_enter Tryz.func94,Tryz.ntmps94
 go_upto_region 1 with (fail)
 rw [← HW1.out]
 clear HW1
 obtain ⟨⟨x0,x1,x2,x3,x4,x5,-⟩,⟨y0,y1,y2,y3,-⟩,-,-,-,-⟩:=HK.out W1 (Below.refl _ _)
 go_wp2_with fail
 refine (blockValid_implV b a n c _ (HK.out W1 (Below.refl _ _)).2.2.2.1).mono ?_;rintro e w2 ⟨rfl,hb2⟩
 have HB2:=Lib.hid hb2
 clear x0 x1 x2 x3 x4 x5 y0 y1 y2 y3 e1 hb2
 cases e2:blkB b with
 | false =>
  have HNP:=Lib.hid (putB_no (t:=t) (b:=b) (fun hp=>by have:=hp.ok;rw [e2] at this;cases this))
  have HBF:=Lib.hid (HK.out _ HB2.out).2.2.2.2.2
  go_wp2_with fail
  go_ret
  exact putW_no HIX.out HBF.out HBW.out HNP.out
 | true =>
 have hn10:n≤10:=by have:=(actsB_true (blkB_true e2).2.2.2.2.2).1;have:=(HK.out w2 HB2.out).2.2.2.1.1;omega
 have H2:=Lib.hid e2
 have hsb:=blkSumM_nn e2
 have hbb:=(blkB_true e2).1
 clear e2
 obtain ⟨sb,hsbe⟩:∃ sb,blkSumM b=sb:=⟨_,rfl⟩
 obtain ⟨fb,hfbe⟩:∃ fb,findL t.blocks b.bef=fb:=⟨_,rfl⟩
 have HSB:=Lib.hid hsbe
 have HFB:=Lib.hid hfbe
 have hfbd:=findL_bd t.blocks b.bef
 rw [hsbe] at hsb
 rw [hfbe,HL2.out] at hfbd
 clear hsbe hfbe
 have HWS:Hid ((Lit.int .i64 sb).wf=true):=Lib.hid (WalkArith.wf_i64 (by omega))
 have HWB:Hid ((Lit.int .i64 b.bef).wf=true):=Lib.hid HWF.out.1
 go_upto_region 3 with (fail)
 have HKP:Hid (∀ W':World,Below w2.heap.size w2 W'→(W'.cell? ⟨w.heap.size,0,none⟩=some (.int .i64 b.bef)∧W'.cell? ⟨w.heap.size,1,none⟩=some (.int .i64 b.hgt)∧W'.cell? ⟨w.heap.size,2,none⟩=some (.int .i64 b.view)∧W'.cell? ⟨w.heap.size,3,none⟩=some (.slice a n c)∧W'.cell? ⟨w.heap.size,4,none⟩=some (.int .i64 b.root)∧W'.cell? ⟨w.heap.size,5,none⟩=some (.int .i64 b.effs))):=Lib.hid (fun W' hb=>by obtain ⟨⟨x0,x1,x2,x3,x4,x5,-⟩,-⟩:=HK.out W' (HB2.out.trans (hb.mono HB2.out.size));exact ⟨x0,x1,x2,x3,x4,x5⟩)
 have hkp0:=HKP.out _ (Below.refl _ _)
 go_region_held3 (fun w'=>(w'.cell? ⟨w.heap.size,0,none⟩=some (.int .i64 b.bef)∧w'.cell? ⟨w.heap.size,1,none⟩=some (.int .i64 b.hgt)∧w'.cell? ⟨w.heap.size,2,none⟩=some (.int .i64 b.view)∧w'.cell? ⟨w.heap.size,3,none⟩=some (.slice a n c)∧w'.cell? ⟨w.heap.size,4,none⟩=some (.int .i64 b.root)∧w'.cell? ⟨w.heap.size,5,none⟩=some (.int .i64 b.effs))) (first | exact hkp0 | exact hkp | go_keep)
  (first | (go_at_call 19;refine (blockSum_implV b a n c w2.drew (show RowA w2.drew _ _ _ from (HK.out w2 HB2.out).2.2.2.1)).mono ?_;rintro e1 w3 ⟨rfl,hb3'⟩;have hb3:=(Below.refl w2.heap.size w2).drew.trans hb3';have hkp:=HKP.out _ hb3;rw [HSB.out]) | (go_at_call 89;refine (numberOf_impl Z m _ _ _ _ t.blocks b.bef _ (HK.out w3 (HB2.out.trans (hb3.mono HB2.out.size))).2.1 (HK.out w3 (HB2.out.trans (hb3.mono HB2.out.size))).2.2.1 HWB.out).mono ?_;rintro e1 wq ⟨rfl,rfl⟩;rw [HFB.out]))
 have HB3:=Lib.hid (HB2.out.trans (hb3.mono HB2.out.size))
 clear hkp hkp0 hb3 hb3' HKP HB2
 by_cases h4:fb = -1
 case pos =>
  have e4:(fb == -1)=true:=by simp [h4]
  have HNP:=Lib.hid (putB_no (t:=t) (b:=b) (fun hp=>hp.fnd (by rw [HFB.out];exact h4)))
  clear h4
  go_upto_region 4 with (fail)
  refine wp_region_light (by kernel_rfl) (fun lz fz wz=>Vals [(0,25,(.int .i64 fb)),(1,26,(.bool true)),(2,27,(.bool true)),(14,39,(.bool true)),(15,40,(.bool true)),(20,45,(.bool true))] lz fz∧Facts w3 [] lz fz wz) 82 rfl [25,26,27,28,29,30,31,32,33,34,35,36,37,38,39,40,41,42,43,44,45] (by kernel_rfl) (by kernel_rfl) (by kernel_rfl) (fun f=>⟨Vals.nothing _ f,Facts.nothing _ _ f⟩) ?_ ?_
  · intro i hi
    rcases (by have:i < 21:=hi;omega:i=0∨i=1∨i=2∨i=3∨i=4∨i=5∨i=6∨i=7∨i=8∨i=9∨i=10∨i=11∨i=12∨i=13∨i=14∨i=15∨i=16∨i=17∨i=18∨i=19∨i=20) with rfl | rfl | rfl | rfl | rfl | rfl | rfl | rfl | rfl | rfl | rfl | rfl | rfl | rfl | rfl | rfl | rfl | rfl | rfl | rfl | rfl
    all_goals (clear hi;intro o ho lz fz w' A ⟨hv,hr⟩ hli ha hA K hK;obtain rfl:=Option.some.inj ho;clear ho)
    · have gg6:=so hA 6 _ rfl
      simp only [List.getD_cons_succ,List.getD_cons_zero] at gg6
      rw [if_pos (by rfl)]
      have hF:=hK _ w' ⟨hv.put 0 0 25 rfl rfl rfl,hr.nil⟩
      clear hv hr ha hK hA hli;go_simp;exact hF
    · have gg25:=sj hA 25 (hv.at 0 rfl (ha 0 (by decide)))
      rw [if_pos (by rfl)]
      have hF:=hK _ w' ⟨hv.put 1 1 26 rfl rfl rfl,hr.nil⟩
      clear hv hr ha hK hA hli;go_simp;exact hF
    · have gg26:=sj hA 26 (hv.at 1 rfl (ha 1 (by decide)))
      rw [if_pos (by rfl)]
      have hF:=hK _ w' ⟨hv.put 2 2 27 rfl rfl rfl,hr.nil⟩
      clear hv hr ha hK hA hli;go_simp;exact hF
    iterate 11
     · have g27:=si hA 27 (hv.at 2 rfl (ha 2 (by decide)))
       have gw:=slot_bool g27
       rw [if_neg (by simp [Region.wanted,yielded,gw])]
       exact hK undef w' ⟨hv.step _ _ _ (by simp),hr.step _ _ _ (Below.refl _ _) (by simp)⟩
    · have gg27:=sj hA 27 (hv.at 2 rfl (ha 2 (by decide)))
      rw [if_pos (by rfl)]
      have hF:=hK _ w' ⟨hv.put 3 14 39 rfl rfl rfl,hr.nil⟩
      clear hv hr ha hK hA hli;go_simp;exact hF
    · have gg39:=sj hA 39 (hv.at 3 rfl (ha 14 (by decide)))
      rw [if_pos (by rfl)]
      have hF:=hK _ w' ⟨hv.put 4 15 40 rfl rfl rfl,hr.nil⟩
      clear hv hr ha hK hA hli;go_simp;exact hF
    iterate 4
     · have g40:=si hA 40 (hv.at 4 rfl (ha 15 (by decide)))
       have gw:=slot_bool g40
       rw [if_neg (by simp [Region.wanted,yielded,gw])]
       exact hK undef w' ⟨hv.step _ _ _ (by simp),hr.step _ _ _ (Below.refl _ _) (by simp)⟩
    · have gg40:=sj hA 40 (hv.at 4 rfl (ha 15 (by decide)))
      rw [if_pos (by rfl)]
      have hF:=hK _ w' ⟨hv.put 5 20 45 rfl rfl rfl,hr.nil⟩
      clear hv hr ha hK hA hli;go_simp;exact hF
  · intro lz fz w6 hall ⟨hv,hq⟩
    have h45:=hv.at 5 rfl (hall 20 (by decide))
    have hbR:=hq.1
    clear hv hq hall
    simp only [mixF,List.contains_cons,List.contains_nil]
    go_simp
    have HB6:=Lib.hid (HB3.out.trans (hbR.mono HB3.out.size))
    clear hbR
    have HBF:=Lib.hid (HK.out _ HB6.out).2.2.2.2.2
    go_wp2_with fail
    go_ret
    exact putW_no HIX.out HBF.out HBW.out HNP.out
 have e4:(fb == -1)=false:=by simp [h4]
 obtain ⟨g,rfl⟩:=Int.eq_ofNat_of_zero_le (show 0≤fb by omega)
 have hgn:g < n2:=by omega
 clear h4 hfbd
 obtain ⟨b0,off,rfl,hbx⟩:=(HK.out w3 HB3.out).2.2.2.2.1.at g hgn
 have hxok:=HTK.out.ok (i:=g) (by rw [HL2.out];exact hgn)
 have HXH:Hid (blkAt t.blocks (findL t.blocks b.bef).toNat=t.blocks.getD g noBlk):=Lib.hid (by rw [HFB.out];rfl)
 simp only [blkAt] at hxok HXH
 obtain ⟨x,hx⟩:∃ x,x=t.blocks.getD g noBlk:=⟨_,rfl⟩
 rw [← hx] at hbx hxok HXH
 have hxh:=(blkB_true hxok).2.2.2.1
 clear hx hxok
 obtain ⟨g0,g1,g2,⟨v,g3,a',n',c',rfl,ra,-,-⟩,g4,g5⟩:=hbx
 have hbw:=World.block_lt_of_cell? w3 ⟨b0,off+g*6,none⟩ g0
 have j1:(0:Int)≤(g:Int):=by omega
 have j2:(g:Int) < (n2:Int):=by omega
 have HKP:Hid (∀ W':World,Below w3.heap.size w3 W'→((W'.cell? ⟨w.heap.size,0,none⟩=some (.int .i64 b.bef)∧W'.cell? ⟨w.heap.size,1,none⟩=some (.int .i64 b.hgt)∧W'.cell? ⟨w.heap.size,2,none⟩=some (.int .i64 b.view)∧W'.cell? ⟨w.heap.size,3,none⟩=some (.slice a n c)∧W'.cell? ⟨w.heap.size,4,none⟩=some (.int .i64 b.root)∧W'.cell? ⟨w.heap.size,5,none⟩=some (.int .i64 b.effs))∧W'.cell? ⟨Z,1,none⟩=some (.slice (some ⟨b0,off,none⟩) n2 c2)∧W'.cell? ⟨b0,off+g*6,none⟩=some (.int .i64 x.bef)∧W'.cell? ⟨b0,off+g*6+1,none⟩=some (.int .i64 x.hgt)∧W'.cell? ⟨b0,off+g*6+2,none⟩=some (.int .i64 x.view)∧W'.cell? ⟨b0,off+g*6+3,none⟩=some (.slice a' n' c')∧W'.cell? ⟨b0,off+g*6+4,none⟩=some (.int .i64 x.root)∧W'.cell? ⟨b0,off+g*6+5,none⟩=some (.int .i64 x.effs))):=Lib.hid (fun W' hb=>by obtain ⟨⟨x0,x1,x2,x3,x4,x5,-⟩,⟨-,y1,-,-,-⟩,-⟩:=HK.out W' (HB3.out.trans (hb.mono HB3.out.size));exact ⟨⟨x0,x1,x2,x3,x4,x5⟩,y1,below_cell hb hbw g0,below_cell hb hbw g1,below_cell hb hbw g2,below_cell hb hbw g3,below_cell hb hbw g4,below_cell hb hbw g5⟩)
 clear g0 g1 g2 g3 g4 g5 ra hbw
 cases e5:nxtB b x with
 | false =>
  have HNP:=Lib.hid (putB_no (t:=t) (b:=b) (fun hp=>by
   have q1:=hp.hgt;have q2:=hp.view
   simp only [blkAt] at q1 q2
   rw [HXH.out] at q1 q2
   have:nxtB b x=true:=by simp [nxtB,q1,q2]
   rw [e5] at this;cases this))
  go_upto_region 4 with (fail)
  refine wp_region_light (by kernel_rfl) (fun lz fz wz=>Vals [(0,25,(.int .i64 (g:Int))),(1,26,(.bool false)),(2,27,(.bool false)),(3,28,(.agg #[.int .i64 b.bef,.int .i64 b.hgt,.int .i64 b.view,.slice a n c,.int .i64 b.root,.int .i64 b.effs])),(4,29,(.pointer (some ⟨Z,0,none⟩))),(5,30,(.pointer (some ⟨Z,0,none⟩))),(6,31,(.pointer (some ⟨Z,0,none⟩))),(7,32,(.pointer (some ⟨Z,1,none⟩))),(8,33,(.slice (some ⟨b0,off,none⟩) n2 c2)),(9,34,(.int .i64 (g:Int))),(10,35,(.pointer (some ⟨b0,off+g*6,none⟩))),(11,36,(.agg #[.int .i64 x.bef,.int .i64 x.hgt,.int .i64 x.view,Value.slice a' n' c',.int .i64 x.root,.int .i64 x.effs])),(12,37,(.bool false)),(13,38,(.bool true)),(14,39,(.bool true)),(15,40,(.bool true)),(20,45,(.bool true))] lz fz∧Facts w3 [] lz fz wz) 82 rfl [25,26,27,28,29,30,31,32,33,34,35,36,37,38,39,40,41,42,43,44,45] (by kernel_rfl) (by kernel_rfl) (by kernel_rfl) (fun f=>⟨Vals.nothing _ f,Facts.nothing _ _ f⟩) ?_ ?_
  · intro i hi
    rcases (by have:i < 21:=hi;omega:i=0∨i=1∨i=2∨i=3∨i=4∨i=5∨i=6∨i=7∨i=8∨i=9∨i=10∨i=11∨i=12∨i=13∨i=14∨i=15∨i=16∨i=17∨i=18∨i=19∨i=20) with rfl | rfl | rfl | rfl | rfl | rfl | rfl | rfl | rfl | rfl | rfl | rfl | rfl | rfl | rfl | rfl | rfl | rfl | rfl | rfl | rfl
    all_goals (clear hi;intro o ho lz fz w' A ⟨hv,hr⟩ hli ha hA K hK;obtain rfl:=Option.some.inj ho;clear ho)
    · have gg6:=so hA 6 _ rfl
      simp only [List.getD_cons_succ,List.getD_cons_zero] at gg6
      rw [if_pos (by rfl)]
      have hF:=hK _ w' ⟨hv.put 0 0 25 rfl rfl rfl,hr.nil⟩
      clear hv hr ha hK hA hli;go_simp;exact hF
    · have gg25:=sj hA 25 (hv.at 0 rfl (ha 0 (by decide)))
      rw [if_pos (by rfl)]
      have hF:=hK _ w' ⟨hv.put 1 1 26 rfl rfl rfl,hr.nil⟩
      clear hv hr ha hK hA hli;go_simp;exact hF
    · have gg26:=sj hA 26 (hv.at 1 rfl (ha 1 (by decide)))
      rw [if_pos (by rfl)]
      have hF:=hK _ w' ⟨hv.put 2 2 27 rfl rfl rfl,hr.nil⟩
      clear hv hr ha hK hA hli;go_simp;exact hF
    · have gg3:=so hA 3 _ rfl
      simp only [List.getD_cons_succ,List.getD_cons_zero] at gg3
      have g27:=si hA 27 (hv.at 2 rfl (ha 2 (by decide)))
      have gg27:=slot_get g27
      rw [if_pos (by simp [Region.wanted,yielded,slot_bool g27])]
      obtain ⟨⟨kx0,kx1,kx2,kx3,kx4,kx5⟩,ky1,kg0,kg1,kg2,kg3,kg4,kg5⟩:=HKP.out w' hr.1
      have hF:=hK _ w' ⟨hv.put 3 3 28 rfl rfl rfl,hr.nil⟩
      clear hv hr ha hK hA hli;go_simp;exact hF
    · have gg0:=so hA 0 _ rfl
      simp only [List.getD_cons_succ,List.getD_cons_zero] at gg0
      have g27:=si hA 27 (hv.at 2 rfl (ha 2 (by decide)))
      have gg27:=slot_get g27
      rw [if_pos (by simp [Region.wanted,yielded,slot_bool g27])]
      have hF:=hK _ w' ⟨hv.put 4 4 29 rfl rfl rfl,hr.nil⟩
      clear hv hr ha hK hA hli;go_simp;exact hF
    · have gg29:=sj hA 29 (hv.at 4 rfl (ha 4 (by decide)))
      have g27:=si hA 27 (hv.at 2 rfl (ha 2 (by decide)))
      have gg27:=slot_get g27
      rw [if_pos (by simp [Region.wanted,yielded,slot_bool g27])]
      have hF:=hK _ w' ⟨hv.put 5 5 30 rfl rfl rfl,hr.nil⟩
      clear hv hr ha hK hA hli;go_simp;exact hF
    · have gg30:=sj hA 30 (hv.at 5 rfl (ha 5 (by decide)))
      have g27:=si hA 27 (hv.at 2 rfl (ha 2 (by decide)))
      have gg27:=slot_get g27
      rw [if_pos (by simp [Region.wanted,yielded,slot_bool g27])]
      have hF:=hK _ w' ⟨hv.put 6 6 31 rfl rfl rfl,hr.nil⟩
      clear hv hr ha hK hA hli;go_simp;exact hF
    · have gg31:=sj hA 31 (hv.at 6 rfl (ha 6 (by decide)))
      have g27:=si hA 27 (hv.at 2 rfl (ha 2 (by decide)))
      have gg27:=slot_get g27
      rw [if_pos (by simp [Region.wanted,yielded,slot_bool g27])]
      have hF:=hK _ w' ⟨hv.put 7 7 32 rfl rfl rfl,hr.nil⟩
      clear hv hr ha hK hA hli;go_simp;exact hF
    · have gg32:=sj hA 32 (hv.at 7 rfl (ha 7 (by decide)))
      have g27:=si hA 27 (hv.at 2 rfl (ha 2 (by decide)))
      have gg27:=slot_get g27
      rw [if_pos (by simp [Region.wanted,yielded,slot_bool g27])]
      obtain ⟨⟨kx0,kx1,kx2,kx3,kx4,kx5⟩,ky1,kg0,kg1,kg2,kg3,kg4,kg5⟩:=HKP.out w' hr.1
      have hF:=hK _ w' ⟨hv.put 8 8 33 rfl rfl rfl,hr.nil⟩
      clear hv hr ha hK hA hli;go_simp;exact hF
    · have gg6:=so hA 6 _ rfl
      simp only [List.getD_cons_succ,List.getD_cons_zero] at gg6
      have g27:=si hA 27 (hv.at 2 rfl (ha 2 (by decide)))
      have gg27:=slot_get g27
      rw [if_pos (by simp [Region.wanted,yielded,slot_bool g27])]
      have hF:=hK _ w' ⟨hv.put 9 9 34 rfl rfl rfl,hr.nil⟩
      clear hv hr ha hK hA hli;go_simp;exact hF
    · have gg33:=sj hA 33 (hv.at 8 rfl (ha 8 (by decide)))
      have gg34:=sj hA 34 (hv.at 9 rfl (ha 9 (by decide)))
      have g27:=si hA 27 (hv.at 2 rfl (ha 2 (by decide)))
      have gg27:=slot_get g27
      rw [if_pos (by simp [Region.wanted,yielded,slot_bool g27])]
      have hF:=hK _ w' ⟨hv.put 10 10 35 rfl rfl rfl,hr.nil⟩
      clear hv hr ha hK hA hli;go_simp;exact hF
    · have gg35:=sj hA 35 (hv.at 10 rfl (ha 10 (by decide)))
      have g27:=si hA 27 (hv.at 2 rfl (ha 2 (by decide)))
      have gg27:=slot_get g27
      rw [if_pos (by simp [Region.wanted,yielded,slot_bool g27])]
      obtain ⟨⟨kx0,kx1,kx2,kx3,kx4,kx5⟩,ky1,kg0,kg1,kg2,kg3,kg4,kg5⟩:=HKP.out w' hr.1
      have hF:=hK _ w' ⟨hv.put 11 11 36 rfl rfl rfl,hr.nil⟩
      clear hv hr ha hK hA hli;go_simp;exact hF
    · have gg28:=sj hA 28 (hv.at 3 rfl (ha 3 (by decide)))
      have gg36:=sj hA 36 (hv.at 11 rfl (ha 11 (by decide)))
      have g27:=si hA 27 (hv.at 2 rfl (ha 2 (by decide)))
      have gg27:=slot_get g27
      rw [if_pos (by simp [Region.wanted,yielded,slot_bool g27])]
      clear hA
      go_simp
      refine (isNext_impl b x (.slice a n c) (.slice a' n' c') _ (by omega) (by omega)).mono ?_
      rintro e9 w9 ⟨rfl,hb9⟩
      rw [e5]
      exact hK (.bool false) w9 ⟨hv.step 12 37 _ (by simp),hr.step 12 37 _ hb9 (by simp)⟩
    · have gg37:=sj hA 37 (hv.at 12 rfl (ha 12 (by decide)))
      have g27:=si hA 27 (hv.at 2 rfl (ha 2 (by decide)))
      have gg27:=slot_get g27
      rw [if_pos (by simp [Region.wanted,yielded,slot_bool g27])]
      have hF:=hK _ w' ⟨hv.put 13 13 38 rfl rfl rfl,hr.nil⟩
      clear hv hr ha hK hA hli;go_simp;exact hF
    · have gg27:=sj hA 27 (hv.at 2 rfl (ha 2 (by decide)))
      have gg38:=sj hA 38 (hv.at 13 rfl (ha 13 (by decide)))
      rw [if_pos (by rfl)]
      have hF:=hK _ w' ⟨hv.put 14 14 39 rfl rfl rfl,hr.nil⟩
      clear hv hr ha hK hA hli;go_simp;exact hF
    · have gg39:=sj hA 39 (hv.at 14 rfl (ha 14 (by decide)))
      rw [if_pos (by rfl)]
      have hF:=hK _ w' ⟨hv.put 15 15 40 rfl rfl rfl,hr.nil⟩
      clear hv hr ha hK hA hli;go_simp;exact hF
    iterate 4
     · have g40:=si hA 40 (hv.at 15 rfl (ha 15 (by decide)))
       have gw:=slot_bool g40
       rw [if_neg (by simp [Region.wanted,yielded,gw])]
       exact hK undef w' ⟨hv.step _ _ _ (by simp),hr.step _ _ _ (Below.refl _ _) (by simp)⟩
    · have gg40:=sj hA 40 (hv.at 15 rfl (ha 15 (by decide)))
      rw [if_pos (by rfl)]
      have hF:=hK _ w' ⟨hv.put 16 20 45 rfl rfl rfl,hr.nil⟩
      clear hv hr ha hK hA hli;go_simp;exact hF
  · intro lz fz w6 hall ⟨hv,hq⟩
    have h45:=hv.at 16 rfl (hall 20 (by decide))
    have hbR:=hq.1
    clear hv hq hall
    simp only [mixF,List.contains_cons,List.contains_nil]
    go_simp
    have HB6:=Lib.hid (HB3.out.trans (hbR.mono HB3.out.size))
    clear hbR
    have HBF:=Lib.hid (HK.out _ HB6.out).2.2.2.2.2
    go_wp2_with fail
    go_ret
    exact putW_no HIX.out HBF.out HBW.out HNP.out
 | true =>
 obtain ⟨fs,hfse⟩:∃ fs,findL t.blocks sb=fs:=⟨_,rfl⟩
 have HFS:=Lib.hid hfse
 clear hfse
 by_cases h6:fs = -1
 case neg =>
  have e6:(fs != -1)=true:=by simp [h6]
  have HNP:=Lib.hid (putB_no (t:=t) (b:=b) (fun hp=>h6 (by rw [← HFS.out,← HSB.out];exact hp.new)))
  clear h6
  have hkp0:=HKP.out _ (Below.refl _ _)
  go_upto_region 4 with (fail)
  go_region_held3 (fun W'=>((W'.cell? ⟨w.heap.size,0,none⟩=some (.int .i64 b.bef)∧W'.cell? ⟨w.heap.size,1,none⟩=some (.int .i64 b.hgt)∧W'.cell? ⟨w.heap.size,2,none⟩=some (.int .i64 b.view)∧W'.cell? ⟨w.heap.size,3,none⟩=some (.slice a n c)∧W'.cell? ⟨w.heap.size,4,none⟩=some (.int .i64 b.root)∧W'.cell? ⟨w.heap.size,5,none⟩=some (.int .i64 b.effs))∧W'.cell? ⟨Z,1,none⟩=some (.slice (some ⟨b0,off,none⟩) n2 c2)∧W'.cell? ⟨b0,off+g*6,none⟩=some (.int .i64 x.bef)∧W'.cell? ⟨b0,off+g*6+1,none⟩=some (.int .i64 x.hgt)∧W'.cell? ⟨b0,off+g*6+2,none⟩=some (.int .i64 x.view)∧W'.cell? ⟨b0,off+g*6+3,none⟩=some (.slice a' n' c')∧W'.cell? ⟨b0,off+g*6+4,none⟩=some (.int .i64 x.root)∧W'.cell? ⟨b0,off+g*6+5,none⟩=some (.int .i64 x.effs))) (first | exact hkp0 | exact hkp | go_keep)
   (first | (go_at_call 149;refine (isNext_impl b x (.slice a n c) (.slice a' n' c') w3.drew (by omega) (by omega)).mono ?_;rintro e1 w4 ⟨rfl,hb4'⟩;have hb4:=(Below.refl w3.heap.size w3).drew.trans hb4';have hkp:=HKP.out _ hb4;rw [e5]) | (go_at_call 89;refine (numberOf_impl Z m _ _ _ _ t.blocks sb _ (HK.out w4 (HB3.out.trans (hb4.mono HB3.out.size))).2.1 (HK.out w4 (HB3.out.trans (hb4.mono HB3.out.size))).2.2.1 HWS.out).mono ?_;rintro e1 wq ⟨rfl,rfl⟩;rw [HFS.out]))
  have HB4:=Lib.hid (HB3.out.trans (hb4.mono HB3.out.size))
  clear hkp hkp0 hb4 hb4' HKP
  have HBF:=Lib.hid (HK.out _ HB4.out).2.2.2.2.2
  go_wp2_with fail
  go_ret
  exact putW_no HIX.out HBF.out HBW.out HNP.out
 have e6:(fs != -1)=false:=by simp [h6]
 have HOK:Hid (PutOk t b):=Lib.hid (by
  simp only [nxtB,Bool.and_eq_true,decide_eq_true_eq] at e5
  exact ⟨by rw [HL2.out];exact H1.out,H2.out,by rw [HFB.out];omega,by simp only [blkAt];rw [HXH.out];exact e5.1,by simp only [blkAt];rw [HXH.out];exact e5.2,by rw [HSB.out,HFS.out];exact h6⟩)
 clear h6
 have hkp0:=HKP.out _ (Below.refl _ _)
 go_upto_region 4 with (fail)
 go_region_held3 (fun W'=>((W'.cell? ⟨w.heap.size,0,none⟩=some (.int .i64 b.bef)∧W'.cell? ⟨w.heap.size,1,none⟩=some (.int .i64 b.hgt)∧W'.cell? ⟨w.heap.size,2,none⟩=some (.int .i64 b.view)∧W'.cell? ⟨w.heap.size,3,none⟩=some (.slice a n c)∧W'.cell? ⟨w.heap.size,4,none⟩=some (.int .i64 b.root)∧W'.cell? ⟨w.heap.size,5,none⟩=some (.int .i64 b.effs))∧W'.cell? ⟨Z,1,none⟩=some (.slice (some ⟨b0,off,none⟩) n2 c2)∧W'.cell? ⟨b0,off+g*6,none⟩=some (.int .i64 x.bef)∧W'.cell? ⟨b0,off+g*6+1,none⟩=some (.int .i64 x.hgt)∧W'.cell? ⟨b0,off+g*6+2,none⟩=some (.int .i64 x.view)∧W'.cell? ⟨b0,off+g*6+3,none⟩=some (.slice a' n' c')∧W'.cell? ⟨b0,off+g*6+4,none⟩=some (.int .i64 x.root)∧W'.cell? ⟨b0,off+g*6+5,none⟩=some (.int .i64 x.effs))) (first | exact hkp0 | exact hkp | go_keep)
  (first | (go_at_call 149;refine (isNext_impl b x (.slice a n c) (.slice a' n' c') w3.drew (by omega) (by omega)).mono ?_;rintro e1 w4 ⟨rfl,hb4'⟩;have hb4:=(Below.refl w3.heap.size w3).drew.trans hb4';have hkp:=HKP.out _ hb4;rw [e5]) | (go_at_call 89;refine (numberOf_impl Z m _ _ _ _ t.blocks sb _ (HK.out w4 (HB3.out.trans (hb4.mono HB3.out.size))).2.1 (HK.out w4 (HB3.out.trans (hb4.mono HB3.out.size))).2.2.1 HWS.out).mono ?_;rintro e1 wq ⟨rfl,rfl⟩;rw [HFS.out]))
 have HB4:=Lib.hid (HB3.out.trans (hb4.mono HB3.out.size))
 clear hkp hkp0 hb4 hb4' HKP
 clear e4 e5 e6 HXH HFS HTK ht hxh j1 j2
 have hix4:=HIX.out.below (HK.out _ HB4.out).2.2.2.2.2
 obtain ⟨w5,hrun,hm5,hg5⟩:=(show MapF w4.drew m t.blocks.length (idxF t.blocks) from hix4.map).updRun (by rw [HL2.out];omega) sb t.blocks.length HWS.out (WalkArith.wf_i64 (by rw [HL2.out];omega))
 have hM5:TrIxM w5 B Z m tTreP v1 (.slice (some ⟨b0,off,none⟩) n2 c2) v3 t ts (t.blocks++[b]):=(hix4.below ((Below.refl _ _).drew)).toM HOK.out.new (by rw [HSB.out];exact hm5) hg5
 have hA5:BkAt w5 w.heap.size (.int .i64 b.bef) (.int .i64 b.hgt) (.int .i64 b.view) (.slice a n c) (.int .i64 b.root) (.int .i64 b.effs):=((HK.out _ HB4.out).1.below ((Below.refl _ _).drew)).grown hg5 (by have h1:=HIX.out.map.lt;intro e;injection e with e;omega)
 have hR5:RowA w5 a n b.acts:=(show RowA w4.drew a n b.acts from (HK.out _ HB4.out).2.2.2.1).stay hg5 (fun h0 p o he e=>HNE.out h0 p o he (by injection e))
 have hB5:Below B w w5:=((HK.out _ HB4.out).2.2.2.2.2.drew.mono HBW.out).grown hg5 (by have:=(HK.out _ HB4.out).2.2.2.2.2.size;have:=HBW.out;simp only [World.drew];omega) (fun k hk=>by cases hk;exact HIX.out.mB)
 rw [HL2.out] at hrun
 obtain ⟨-,⟨y0,y1,y2,y3,-⟩,-,-,-,-⟩:=HK.out _ HB4.out
 have HM5:=Lib.hid hM5
 have HA5:=Lib.hid hA5
 have HR5:=Lib.hid hR5
 have HB5:=Lib.hid hB5
 clear hix4 hm5 hg5 hM5 hA5 hR5 hB5
 go_upto_region 6 with (fail)
 go_region
 have hn3:n≤3000000:=by omega
 have HKB:Hid (∀ W':World,Below w5.heap.size w5 W'→BkAt W' w.heap.size (.int .i64 b.bef) (.int .i64 b.hgt) (.int .i64 b.view) (.slice a n c) (.int .i64 b.root) (.int .i64 b.effs)∧IxAt W' Z v1 (.slice (some ⟨b0,off,none⟩) n2 c2) v3 (.map (some m))∧W'.ownsRow B 37 6 (.slice (some ⟨b0,off,none⟩) n2 c2) n2 (bksCs t.blocks ts)):=Lib.hid (fun W' hb=>⟨HA5.out.below hb,HM5.out.box.below hb,by
  have:=owns_below (HM5.out.own.own _ (treRs_swap.mem_iff.2 List.mem_cons_self)) hb
  simp only at this;rw [HL2.out] at this;exact this⟩)
 have HBS:Hid (B≤w5.heap.size):=Lib.hid (Nat.le_trans HBW.out HB5.out.size)
 have HBK:Hid (BkWf b):=Lib.hid ⟨HWF.out,HR5.out.2.2.2,by have:=HR5.out.1;omega⟩
 obtain ⟨⟨x0,x1,x2,x3,x4,x5,-⟩,⟨z0,z1,z2,z3,-⟩,-⟩:=HKB.out w5 (Below.refl _ _)
 clear hrun y0 y1 y2 y3
 go_upto_region 7 with (fail)
 go_region_law (first
  | (go_simp;go_at_call 150;refine (copied_impl b a n c w5.drew (show RowA w5.drew a n b.acts from HR5.out) hz hn3 HWF.out).mono ?_;rintro e1 w7 ⟨v7,rfl,ho7,-,-,hb7'⟩;have hb7:=(Below.refl w5.heap.size w5).drew.trans hb7';obtain ⟨ag,ng,kg,rfl⟩:=slice_form ho7;obtain ⟨-,⟨u0,u1,u2,u3,-⟩,hown7⟩:=HKB.out w7 hb7;obtain ⟨-,⟨ua0,ua1,ua2,ua3,-⟩,-⟩:=HKB.out (w7.alloc (.cells #[.int .i64 b.bef,.int .i64 b.hgt,.int .i64 b.view,.slice ag ng kg,.int .i64 b.root,.int .i64 b.effs] 37)) (hb7.trans (((Below.refl w7.heap.size w7).alloc (Nat.le_refl _) _).mono hb7.size)))
  | (refine step_app1 (W:=w7) rfl (.tmp 62) (.tmp 65) 24 rfl B 37 _ (.agg #[.int .i64 0,.int .i64 0,.int .i64 0,.slice none 0 0,.int .i64 0,.int .i64 0]) 6 64 Tryz.underlying24 infoBlkP rfl (by decide) (.slice (some ⟨b0,off,none⟩) n2 c2) n2 _ [.int .i64 b.bef,.int .i64 b.hgt,.int .i64 b.view,.slice ag ng kg,.int .i64 b.root,.int .i64 b.effs] (by rfl) hown7 (by rfl) rfl (by intro u hu;simp at hu;rcases hu with rfl | rfl | rfl | rfl | rfl | rfl <;> rfl) (by omega) (by decide) (Nat.le_trans HBS.out hb7.size) ?_;intro v8 w8 ho8 hnn hg8 hat;obtain ⟨pa,pn,pc,rfl⟩:=slice_form ho8;obtain ⟨⟨q0,q1,q2,q3,qf0,qf1,qf2,qf3⟩,hM8⟩:=HM5.out.putBlock hb7 ho7 hg8 hat (by rw [HL2.out];exact ho8) HBK.out (by rw [HL2.out];omega)))
 all_goals
  have HM8:=Lib.hid hM8
  have hB8:Below B w (w8.setCell ⟨Z,1,none⟩ (.slice pa pn pc)):=by
   have h1:=HIX.out.zB
   have h2:Below B w w8:=((HB5.out.trans (hb7.mono HBS.out)).alloc (Nat.le_trans HBS.out hb7.size) _).grown hg8 (Nat.le_trans (Nat.le_trans HBS.out hb7.size) (by rw [World.size_alloc];omega)) (fun k hk=>(hown7.lt k hk).1)
   exact h2.setCell h1 _
  have HB8:=Lib.hid hB8
  clear hB8 hM8 u0 u1 u2 u3 ua0 ua1 ua2 ua3 q0 q1 q2 q3 qf0 qf1 qf2 qf3 hg8 hat ho8 hnn hown7 ho7 hb7 hb7' x0 x1 x2 x3 x4 x5 z0 z1 z2 z3 HKB HM5 HA5 HR5
  go_upto_region 8 with (fail)
  obtain ⟨w9,hw9⟩:∃ w9,w9=w8.setCell ⟨Z,1,none⟩ (.slice pa pn pc):=⟨_,rfl⟩
  rw [← hw9] at HM8 HB8 ⊢
  clear hw9
  obtain ⟨z0,z1,z2,z3,zf0,zf1,zf2,zf3⟩:=HM8.out.box
  obtain ⟨a3,n3,c3,rfl⟩:=slice_form (HM8.out.own.own _ (treRs_swap3.mem_iff.2 List.mem_cons_self))
  have ho3:=HM8.out.own.own _ (treRs_swap3.mem_iff.2 List.mem_cons_self)
  simp only at ho3
  have hb9:B≤w9.heap.size:=Nat.le_trans HM8.out.zB (Nat.le_of_lt HM8.out.box.lt)
  have hl3:t.bef.length≤14:=by rw [HLB.out,HL2.out];exact hn14
  go_wp2_with (first | (at_builtin;refine wpList_append_lit (W:=w9) rfl _ _ 25 rfl B 3 3 (.int .i64 0) 1 8 1 Tryz.underlying25 infoIntP rfl (by decide) _ t.bef.length _ [.int .i64 (g:Int)] (by rfl) ho3 (by simp [Act.eval]) rfl ?c11 (by decide) ?c21 (by decide) ?c31 ?_))
  case c11=>intro u hu;simp at hu;rcases hu with rfl;rfl
  case c21=>show t.bef.length+1≤_;omega
  case c31=>exact hb9
  intro v10 w10 ho10 hnn10 hg10 hat10
  obtain ⟨ra,rn,rc,rfl⟩:=slice_form ho10
  obtain ⟨⟨k0,k1,k2,k3,kf0,kf1,kf2,kf3⟩,hX⟩:=HM8.out.putBef (n:=(g:Int)) rfl hg10 hat10 ho10 (WalkArith.wf_i64 (by omega)) (by show t.bef.length < 4000000;omega)
  have hBF:Below B w (w10.setCell ⟨Z,2,none⟩ (.slice ra rn rc)):=by
   have h1:=HIX.out.zB
   have h2:Below B w w10:=(HB8.out.alloc hb9 _).grown hg10 (by rw [World.size_alloc];omega) (fun k hk=>(ho3.lt k hk).1)
   exact h2.setCell h1 _
  have HX:=Lib.hid hX
  have HBF:=Lib.hid hBF
  have hsz:w.heap.size≤(w10.setCell ⟨Z,2,none⟩ (.slice ra rn rc)).heap.size:=hBF.size
  have HSZ:=Lib.hid hsz
  clear hX hBF hsz hg10 hat10 ho10 hnn10 ho3 z0 z1 z2 z3 zf0 zf1 zf2 zf3
  go_wp2_with fail
  go_ret
  have hpt:putB t b=true:=(putB_iff t b).2 HOK.out
  have hfin:=HX.out
  simp only [Tre.mid] at hfin
  rw [← HFB.out] at hfin
  exact ⟨by rw [hpt];rfl,HBF.out,HSZ.out,(fun e=>(by rw [hpt] at e;cases e)),fun _=>⟨_,_,_,hfin⟩⟩
def NewIx (w:World) (tT:TreT) (t:Tre) (e:Ending) (w':World):Prop :=
 ∃ Z m v1 v2 v3 ts,e = .returned (.pointer (some ⟨Z,0,none⟩))∧TrIx w' w.heap.size Z m tT v1 v2 v3 t ts∧Below w.heap.size w w'
set_option maxRecDepth 100000 in
set_option maxHeartbeats 8000000 in
theorem newTree_impl (a:Option Addr) (n c:Nat) (S:List Ent) (w:World) (h:RowE w a n S) (hz:a=none→c=0) (hs:storeB S=true) (hn:n≤3000000) :
  Calls Tryz.prog 126 #[.slice a n c] w (NewIx w tTreP (treOfM S)):=by
 have HR:=Lib.hid h
 have HLS:=Lib.hid h.1
 have HWFE:=Lib.hid h.2.2.2
 clear h
 go_enter Tryz.func126,Tryz.ntmps126
 go_wp2_with fail
 refine (firstBlock_impl a n c S _ HR.out hz).mono ?_;rintro e w2 ⟨v2,rfl,ho2,hwa2,hwb2,hb2⟩
 obtain ⟨xa,xn,xc,rfl⟩:=slice_form ho2
 have HO2:=Lib.hid ho2
 have HB2:=Lib.hid hb2
 have HWA:=Lib.hid hwa2
 have HWB:=Lib.hid hwb2
 have HOK:Hid (blkB (firstM S)=true):=Lib.hid (firstM_ok hs)
 have HTO:Hid (treOfM S=⟨S,[firstM S],[-1]⟩):=Lib.hid (by unfold treOfM;rw [if_pos hs])
 obtain ⟨x,hx⟩:∃ x,x=firstM S:=⟨_,rfl⟩
 have HX:=Lib.hid hx
 rw [← hx] at HO2 HWA HWB HOK
 clear ho2 hb2 hwa2 hwb2
 rw [← hx]
 clear hx
 go_upto_region 2 with (fail)
 have HLA:Hid (x.acts.length≤10):=Lib.hid (actsB_true (blkB_true HOK.out).2.2.2.2.2).1
 have HRA:=Lib.hid (rowA_of_owns HO2.out (Nat.le_trans HLA.out (by omega)) HWA.out)
 have hb3:=(Below.refl w2.heap.size w2).alloc (Nat.le_refl _) (.cells #[.int .i64 x.bef,.int .i64 x.hgt,.int .i64 x.view,.slice xa xn xc,.int .i64 x.root,.int .i64 x.effs] 37)
 have hA3:=bkAt_new w2 37 (.int .i64 x.bef) (.int .i64 x.hgt) (.int .i64 x.view) (.slice xa xn xc) (.int .i64 x.root) (.int .i64 x.effs)
 obtain ⟨w3,hw3⟩:∃ w3,w3=w2.alloc (.cells #[.int .i64 x.bef,.int .i64 x.hgt,.int .i64 x.view,.slice xa xn xc,.int .i64 x.root,.int .i64 x.effs] 37):=⟨_,rfl⟩
 have HW3:=Lib.hid hw3
 rw [← hw3] at hb3 hA3
 clear hw3
 have HB23:=Lib.hid hb3
 have HA3:=Lib.hid (fun (W:World) (hb:Below w3.heap.size w3 W)=>hA3.below hb)
 have HB3:=Lib.hid (HB2.out.trans (hb3.mono HB2.out.size))
 have HSX2:Hid (w2.heap.size < w3.heap.size):=Lib.hid hA3.lt
 clear hb3 hA3
 obtain ⟨sx,hsx⟩:∃ sx,blkSumM x=sx:=⟨_,rfl⟩
 obtain ⟨FX,hFX⟩:∃ FX,FX=idxF [x]:=⟨_,rfl⟩
 have HSX:=Lib.hid hsx
 have HFE:=Lib.hid hFX
 have HFX:Hid (∀ s,FX s=updF (fun _=>none) sx 0 s):=Lib.hid (fun s=>by
  have h0:findL [] (blkSumM x) = -1:=rfl
  have:=idxF_snoc h0 s (b:=x)
  rw [hFX,show [x]=[]++[x] from rfl,this,hsx]
  unfold updF
  by_cases e:s=sx
  · rw [if_pos e,if_pos e];rfl
  · rw [if_neg e,if_neg e];rfl)
 have HWS:Hid ((Lit.int .i64 sx).wf=true):=Lib.hid (by have:=blkSumM_bd x;rw [hsx] at this;exact WalkArith.wf_i64 (by omega))
 clear hsx hFX
 have HCL:=Lib.hid (fun (W:World) (hb:Below w3.heap.size w3 W)=>clone_any a n c S W (HR.out.below (HB3.out.trans (hb.mono HB3.out.size))) hz hn)
 have HBS:=Lib.hid (fun (W:World) (hb:Below w3.heap.size w3 W)=>(by
  obtain ⟨a',c',e',r',-⟩:=HRA.out
  simp only [Value.slice.injEq] at e'
  obtain ⟨rfl,rfl,rfl⟩:=e'
  have:=blockSum_implV x xa x.acts.length xc W (r'.below (HB23.out.trans (hb.mono HB23.out.size)))
  rw [HSX.out] at this;exact this:Calls Tryz.prog 19 #[.agg #[.int .i64 x.bef,.int .i64 x.hgt,.int .i64 x.view,.slice xa xn xc,.int .i64 x.root,.int .i64 x.effs]] W (IntB sx W)))
 unfold Copy at HCL
 unfold IntB at HBS
 rw [← HW3.out]
 clear HW3 HRA HR
 refine wp_region_light (by kernel_rfl) (fun lz fz wz=>Vals [(0,6,(.slice a n c)),(2,8,(.agg #[.int .i64 x.bef,.int .i64 x.hgt,.int .i64 x.view,.slice xa xn xc,.int .i64 x.root,.int .i64 x.effs])),(7,13,(.agg #[.int .i64 x.bef,.int .i64 x.hgt,.int .i64 x.view,.slice xa xn xc,.int .i64 x.root,.int .i64 x.effs])),(8,14,(.int .i64 sx))] lz fz∧Deps2 [(⟨5,11,[(1,7),(3,9),(4,10)],fun f=>.agg #[f 7,f 9,f 10],fun f g h=>by simp at h;simp [h]⟩:DepT2),(⟨10,15,[(6,12)],fun f=>f 12,fun f g h=>by simp at h;simp [h]⟩:DepT2),(⟨11,16,[(1,7),(3,9),(4,10),(6,12)],fun f=>.agg #[f 7,f 9,f 10,f 12],fun f g h=>by simp at h;simp [h]⟩:DepT2),(⟨13,2,[(12,17)],fun f=>f 17,fun f g h=>by simp at h;simp [h]⟩:DepT2)] lz fz∧ObJ w3 [(⟨1,7,.rowB w3.heap.size 142 2 S.length (flatE S)⟩:ObT),(⟨3,9,.rowB w3.heap.size 37 6 1 [.int .i64 x.bef,.int .i64 x.hgt,.int .i64 x.view,.slice xa xn xc,.int .i64 x.root,.int .i64 x.effs]⟩:ObT),(⟨4,10,.rowB w3.heap.size 3 1 1 [.int .i64 (-1)]⟩:ObT),(⟨6,12,.someMap⟩:ObT)] lz fz wz∧MapJ 6 9 12 FX lz fz wz∧BoxJ w3 12 17 7 9 10 12 [1,3,4,6] lz fz wz) 18 rfl [6,7,8,9,10,11,12,13,14,15,16,17,2] (by kernel_rfl) (by kernel_rfl) (by kernel_rfl) (fun f=>⟨Vals.nothing _ f,Deps2.nothing _ f,ObJ.nothing _ _ f,MapJ.nothing _ _ _ _ f _,BoxJ.nothing _ _ _ _ _ _ _ _ f _⟩) ?_ ?_
 · intro i hi
   rcases (by have:i < 14:=hi;omega:i=0∨i=1∨i=2∨i=3∨i=4∨i=5∨i=6∨i=7∨i=8∨i=9∨i=10∨i=11∨i=12∨i=13) with rfl | rfl | rfl | rfl | rfl | rfl | rfl | rfl | rfl | rfl | rfl | rfl | rfl | rfl
   all_goals (clear hi;intro o ho lz fz w' A ⟨hv,hd,hq,hm,hx⟩ hli ha hA K hK;obtain rfl:=Option.some.inj ho;clear ho)
   · have gg0:=so hA 0 _ rfl
     simp only [List.getD_cons_succ,List.getD_cons_zero] at gg0
     rw [if_pos (by rfl)]
     have hF:=hK (.slice a n c) w' ⟨hv.step 0 6 _ (by simp),hd.step 0 6 _ hli (by simp [allR2]),hq.still 0 (some 6) _ (Below.refl _ _) (by simp),hm.still 0 (some 6) _ (Below.refl _ _) (by decide) (by decide) (by decide),hx.still 0 (some 6) _ (Below.refl _ _) hli (by decide) (by decide) (.inr (by decide))⟩
     clear hv hd hq hm hx ha hK hA hli;go_simp;exact hF
   · have gg6:=sj hA 6 (hv.at 0 rfl (ha 0 (by decide)))
     rw [if_pos (by rfl)]
     have hh:=HCL.out w' hq.below
     clear hA
     go_simp
     refine hh.mono ?_
     rintro e9 w9 ⟨v9,rfl,ho9,hb9⟩
     exact hK v9 w9 ⟨hv.step 1 7 _ (by simp),hd.step 1 7 _ hli (by simp [allR2]),hq.new 1 7 v9 hb9 (fun b hb=>by rw [owns_blk ho9] at hb;exact (ho9.lt b hb).1) (by simp;exact owns_mono ho9 hq.below.size),hm.still 1 (some 7) _ hb9 (by decide) (by decide) (by decide),hx.still 1 (some 7) _ hb9 hli (by decide) (by decide) (.inl (by decide))⟩
   · have gg3:=so hA 3 _ rfl
     simp only [List.getD_cons_succ,List.getD_cons_zero] at gg3
     obtain ⟨kx0,kx1,kx2,kx3,kx4,kx5,-⟩:=HA3.out w' hq.below
     rw [if_pos (by rfl)]
     have hF:=hK (.agg #[.int .i64 x.bef,.int .i64 x.hgt,.int .i64 x.view,.slice xa xn xc,.int .i64 x.root,.int .i64 x.effs]) w' ⟨hv.step 2 8 _ (by simp),hd.step 2 8 _ hli (by simp [allR2]),hq.still 2 (some 8) _ (Below.refl _ _) (by simp),hm.still 2 (some 8) _ (Below.refl _ _) (by decide) (by decide) (by decide),hx.still 2 (some 8) _ (Below.refl _ _) hli (by decide) (by decide) (.inr (by decide))⟩
     clear hv hd hq hm hx ha hK hA hli;go_simp;exact hF
   · have gg8:=sj hA 8 (hv.at 1 rfl (ha 2 (by decide)))
     rw [if_pos (by rfl)]
     have ho9:=(own_lit (w:=w') (B:=w'.heap.size) 37 6 #[.int .i64 x.bef,.int .i64 x.hgt,.int .i64 x.view,.slice xa xn xc,.int .i64 x.root,.int .i64 x.effs] 1 (Nat.le_refl _) (by unfold maxLen;omega) rfl).1
     have hb9:=(Below.refl w'.heap.size w').alloc (Nat.le_refl _) (.cells #[.int .i64 x.bef,.int .i64 x.hgt,.int .i64 x.view,.slice xa xn xc,.int .i64 x.root,.int .i64 x.effs] 37)
     have hF:=hK (.slice (some ⟨w'.heap.size,0,none⟩) 1 1) (w'.alloc (.cells #[.int .i64 x.bef,.int .i64 x.hgt,.int .i64 x.view,.slice xa xn xc,.int .i64 x.root,.int .i64 x.effs] 37)) ⟨hv.step 3 9 _ (by simp),hd.step 3 9 _ hli (by simp [allR2]),hq.new 3 9 _ hb9 (fun b hb=>by simp [blk] at hb;omega) (by simp;exact owns_mono ho9 hq.below.size),hm.still 3 (some 9) _ hb9 (by decide) (by decide) (by decide),hx.still 3 (some 9) _ hb9 hli (by decide) (by decide) (.inl (by decide))⟩
     clear hv hd hq hm hx ha hK hA hli ho9 hb9;go_simp;exact hF
   · rw [if_pos (by rfl)]
     have ho9:=(own_lit (w:=w') (B:=w'.heap.size) 3 1 #[.int .i64 (-1)] 1 (Nat.le_refl _) (by unfold maxLen;omega) rfl).1
     have hb9:=(Below.refl w'.heap.size w').alloc (Nat.le_refl _) (.cells #[.int .i64 (-1)] 3)
     have hF:=hK (.slice (some ⟨w'.heap.size,0,none⟩) 1 1) (w'.alloc (.cells #[.int .i64 (-1)] 3)) ⟨hv.step 4 10 _ (by simp),hd.step 4 10 _ hli (by simp [allR2]),hq.new 4 10 _ hb9 (fun b hb=>by simp [blk] at hb;omega) (by simp;exact owns_mono ho9 hq.below.size),hm.still 4 (some 10) _ hb9 (by decide) (by decide) (by decide),hx.still 4 (some 10) _ hb9 hli (by decide) (by decide) (.inl (by decide))⟩
     clear hv hd hq hm hx ha hK hA hli ho9 hb9
     go_simp
     exact hF
   · have g7:A.tmps.getD 7 undef=fz 7:=si hA 7 rfl
     have g9:A.tmps.getD 9 undef=fz 9:=si hA 9 rfl
     have g10:A.tmps.getD 10 undef=fz 10:=si hA 10 rfl
     have gg7:=slot_get g7
     have gg9:=slot_get g9
     have gg10:=slot_get g10
     rw [if_pos (by rfl)]
     have o7:=(hq.own (⟨1,7,.rowB w3.heap.size 142 2 S.length (flatE S)⟩:ObT) (by simp) (ha 1 (by decide))).1
     have o9:=(hq.own (⟨3,9,.rowB w3.heap.size 37 6 1 [.int .i64 x.bef,.int .i64 x.hgt,.int .i64 x.view,.slice xa xn xc,.int .i64 x.root,.int .i64 x.effs]⟩:ObT) (by simp) (ha 3 (by decide))).1
     have o10:=(hq.own (⟨4,10,.rowB w3.heap.size 3 1 1 [.int .i64 (-1)]⟩:ObT) (by simp) (ha 4 (by decide))).1
     obtain ⟨p7,q7,k7,e7⟩:=slice_form o7
     obtain ⟨p9,q9,k9,e9⟩:=slice_form o9
     obtain ⟨p10,q10,k10,e10⟩:=slice_form o10
     simp only at e7 e9 e10
     have hF:=hK (.agg #[fz 7,fz 9,fz 10]) w' ⟨hv.step 5 11 _ (by simp),hd.step 5 11 _ hli (by simp [allR2,ha 1 (by decide),ha 3 (by decide),ha 4 (by decide)]),hq.still 5 (some 11) _ (Below.refl _ _) (by simp),hm.still 5 (some 11) _ (Below.refl _ _) (by decide) (by decide) (by decide),hx.still 5 (some 11) _ (Below.refl _ _) hli (by decide) (by decide) (.inr (by decide))⟩
     rw [e7,e9,e10] at hF
     rw [e7] at g7 gg7
     rw [e9] at g9 gg9
     rw [e10] at g10 gg10
     clear hv hd hq hm hx ha hK hA hli o7 o9 o10;go_simp;exact hF
   · rw [if_pos (by rfl)]
     have hb9:=(Below.refl w'.heap.size w').alloc (Nat.le_refl _) (.map #[] 0)
     have hmm:=run_makeMap 107 (P:=Tryz.prog) w'
     have hM:=MapF.made w'
     have hF:=hK (.map (some w'.heap.size)) (w'.alloc (.map #[] 0)) ⟨hv.step 6 12 _ (by simp),hd.step 6 12 _ hli (by simp [allR2]),hq.new 6 12 _ hb9 (fun b hb=>by simp [blk] at hb;omega) (by simp;exact ⟨w'.heap.size,rfl,by simp,0,_,hM⟩),hm.make w'.heap.size hM (by decide) hli,hx.still 6 (some 12) _ hb9 hli (by decide) (by decide) (.inl (by decide))⟩
     clear hv hd hq hm hx ha hK hA hli hb9 hM
     go_simp
     exact hF
   · have gg3:=so hA 3 _ rfl
     simp only [List.getD_cons_succ,List.getD_cons_zero] at gg3
     obtain ⟨kx0,kx1,kx2,kx3,kx4,kx5,-⟩:=HA3.out w' hq.below
     rw [if_pos (by rfl)]
     have hF:=hK (.agg #[.int .i64 x.bef,.int .i64 x.hgt,.int .i64 x.view,.slice xa xn xc,.int .i64 x.root,.int .i64 x.effs]) w' ⟨hv.step 7 13 _ (by simp),hd.step 7 13 _ hli (by simp [allR2]),hq.still 7 (some 13) _ (Below.refl _ _) (by simp),hm.still 7 (some 13) _ (Below.refl _ _) (by decide) (by decide) (by decide),hx.still 7 (some 13) _ (Below.refl _ _) hli (by decide) (by decide) (.inr (by decide))⟩
     clear hv hd hq hm hx ha hK hA hli;go_simp;exact hF
   · have gg13:=sj hA 13 (hv.at 2 rfl (ha 7 (by decide)))
     rw [if_pos (by rfl)]
     have hh:=HBS.out w' hq.below
     clear hA
     go_simp
     refine hh.mono ?_
     rintro e9 w9 ⟨rfl,hb9⟩
     exact hK _ w9 ⟨hv.step 8 14 _ (by simp),hd.step 8 14 _ hli (by simp [allR2]),hq.still 8 (some 14) _ hb9 (by simp),hm.still 8 (some 14) _ hb9 (by decide) (by decide) (by decide),hx.still 8 (some 14) _ hb9 hli (by decide) (by decide) (.inr (by decide))⟩
   · have g12:A.tmps.getD 12 undef=fz 12:=si hA 12 rfl
     have gg14:=sj hA 14 (hv.at 3 rfl (ha 8 (by decide)))
     have gg12:=slot_get g12
     rw [if_pos (by rfl)]
     have h6:=ha 6 (by decide)
     obtain ⟨m,em,hM0⟩:=hm.1 h6
     rw [hli] at hM0
     simp only [Bool.false_eq_true,if_false] at hM0
     obtain ⟨w9,hrun,hM9,hg9⟩:=hM0.updRun (by omega) sx 0 HWS.out (by decide)
     have hF:=hK undef w9 ⟨hv.stepN 9 _ (by simp),hd.stepN 9 _ (by simp),hq.turn 9 _ m hg9 (⟨6,12,.someMap⟩:ObT) (by simp) (ha 6 (by decide)) (by simp only;rw [em];rfl) (by simp;exact ⟨m,em,hM9.lt,_,_,hM9⟩) (by simp),MapJ.write _ m em (hM9.imp HFX.out) h6,hx.turn 9 _ m hg9 (by decide) (by rw [em];rfl)⟩
     rw [em] at g12 gg12
     clear hv hd hq hm hx ha hK hA hli hM9 hg9 hM0 h6;go_simp;exact hF
   · have g12:A.tmps.getD 12 undef=fz 12:=si hA 12 rfl
     have gg12:=slot_get g12
     rw [if_pos (by rfl)]
     have hF:=hK (fz 12) w' ⟨hv.step 10 15 _ (by simp),hd.step 10 15 _ hli (by simp [allR2,ha 6 (by decide)]),hq.still 10 (some 15) _ (Below.refl _ _) (by simp),hm.still 10 (some 15) _ (Below.refl _ _) (by decide) (by decide) (by decide),hx.still 10 (some 15) _ (Below.refl _ _) hli (by decide) (by decide) (.inr (by decide))⟩
     clear hv hd hq hm hx ha hK hA hli;go_simp;exact hF
   · have hd11:=hd (⟨5,11,[(1,7),(3,9),(4,10)],fun f=>.agg #[f 7,f 9,f 10],fun f g h=>by simp at h;simp [h]⟩:DepT2) (by simp) (ha 5 (by decide))
     simp only at hd11
     have hd15:=hd (⟨10,15,[(6,12)],fun f=>f 12,fun f g h=>by simp at h;simp [h]⟩:DepT2) (by simp) (ha 10 (by decide))
     simp only at hd15
     have g11:A.tmps.getD 11 undef=fz 11:=si hA 11 rfl
     have g15:A.tmps.getD 15 undef=fz 15:=si hA 15 rfl
     have r5:=(hd (⟨5,11,[(1,7),(3,9),(4,10)],fun f=>.agg #[f 7,f 9,f 10],fun f g h=>by simp at h;simp [h]⟩:DepT2) (by simp) (ha 5 (by decide))).1
     have r10:=(hd (⟨10,15,[(6,12)],fun f=>f 12,fun f g h=>by simp at h;simp [h]⟩:DepT2) (by simp) (ha 10 (by decide))).1
     have l1:lz 1=true:=r5 (1,7) (by simp)
     have l3:lz 3=true:=r5 (3,9) (by simp)
     have l4:lz 4=true:=r5 (4,10) (by simp)
     have l6:lz 6=true:=r10 (6,12) (by simp)
     have hd11b:=hd11.2
     have hd15b:=hd15.2
     have o7:=(hq.own (⟨1,7,.rowB w3.heap.size 142 2 S.length (flatE S)⟩:ObT) (by simp) l1).1
     have o9:=(hq.own (⟨3,9,.rowB w3.heap.size 37 6 1 [.int .i64 x.bef,.int .i64 x.hgt,.int .i64 x.view,.slice xa xn xc,.int .i64 x.root,.int .i64 x.effs]⟩:ObT) (by simp) l3).1
     have o10:=(hq.own (⟨4,10,.rowB w3.heap.size 3 1 1 [.int .i64 (-1)]⟩:ObT) (by simp) l4).1
     obtain ⟨m,em,-⟩:=hm.1 l6
     obtain ⟨p7,q7,k7,e7⟩:=slice_form o7
     obtain ⟨p9,q9,k9,e9⟩:=slice_form o9
     obtain ⟨p10,q10,k10,e10⟩:=slice_form o10
     simp only at e7 e9 e10
     rw [hd11b,e7,e9,e10] at g11
     rw [hd15b,em] at g15
     have gg11:=slot_get g11
     have gg15:=slot_get g15
     rw [if_pos (by rfl)]
     have hF:=hK (.agg #[fz 7,fz 9,fz 10,fz 12]) w' ⟨hv.step 11 16 _ (by simp),hd.step 11 16 _ hli (by simp [allR2,l1,l3,l4,l6]),hq.still 11 (some 16) _ (Below.refl _ _) (by simp),hm.still 11 (some 16) _ (Below.refl _ _) (by decide) (by decide) (by decide),hx.still 11 (some 16) _ (Below.refl _ _) hli (by decide) (by decide) (.inr (by decide))⟩
     rw [e7,e9,e10,em] at hF
     clear hv hd hq hm hx ha hK hA hli o7 o9 o10 r5 r10 hd11 hd15;go_simp;exact hF
   · have hd16:=hd (⟨11,16,[(1,7),(3,9),(4,10),(6,12)],fun f=>.agg #[f 7,f 9,f 10,f 12],fun f g h=>by simp at h;simp [h]⟩:DepT2) (by simp) (ha 11 (by decide))
     have g16:A.tmps.getD 16 undef=fz 16:=si hA 16 rfl
     have l1:lz 1=true:=hd16.1 (1,7) (by simp)
     have l3:lz 3=true:=hd16.1 (3,9) (by simp)
     have l4:lz 4=true:=hd16.1 (4,10) (by simp)
     have l6:lz 6=true:=hd16.1 (6,12) (by simp)
     have hd16b:=hd16.2
     simp only at hd16b
     have n7:blk (fz 7)≠some w'.heap.size:=fun e=>by have:=hq.lt (t:=(⟨1,7,.rowB w3.heap.size 142 2 S.length (flatE S)⟩:ObT)) (by simp) l1 e;omega
     have n9:blk (fz 9)≠some w'.heap.size:=fun e=>by have:=hq.lt (t:=(⟨3,9,.rowB w3.heap.size 37 6 1 [.int .i64 x.bef,.int .i64 x.hgt,.int .i64 x.view,.slice xa xn xc,.int .i64 x.root,.int .i64 x.effs]⟩:ObT)) (by simp) l3 e;omega
     have n10:blk (fz 10)≠some w'.heap.size:=fun e=>by have:=hq.lt (t:=(⟨4,10,.rowB w3.heap.size 3 1 1 [.int .i64 (-1)]⟩:ObT)) (by simp) l4 e;omega
     have n12:blk (fz 12)≠some w'.heap.size:=fun e=>by have:=hq.lt (t:=(⟨6,12,.someMap⟩:ObT)) (by simp) l6 e;omega
     rw [hd16b] at g16
     have gg16:=slot_get g16
     rw [if_pos (by rfl)]
     have hb9:=(Below.refl w'.heap.size w').alloc (Nat.le_refl _) (.cells #[fz 7,fz 9,fz 10,fz 12] 109)
     have hF:=hK (.pointer (some ⟨w'.heap.size,0,none⟩)) (w'.alloc (.cells #[fz 7,fz 9,fz 10,fz 12] 109)) ⟨hv.step 12 17 _ (by simp),hd.step 12 17 _ hli (by simp [allR2]),hq.still 12 (some 17) _ hb9 (by simp),hm.still 12 (some 17) _ hb9 (by decide) (by decide) (by decide),BoxJ.make w'.heap.size hq.below.size (ixAt_new w' _ _ _ _ _) n7 n9 n10 n12 (by simp [l1,l3,l4,l6]) (by decide) (by decide) (by decide) (by decide)⟩
     clear hv hd hq hm hx ha hK hA hli hb9 hd16;go_simp;exact hF
   · have g17:A.tmps.getD 17 undef=fz 17:=si hA 17 rfl
     have gg17:=slot_get g17
     rw [if_pos (by rfl)]
     have hF:=hK (fz 17) w' ⟨hv.step 13 2 _ (by simp),hd.step 13 2 _ hli (by simp [allR2,ha 12 (by decide)]),hq.still 13 (some 2) _ (Below.refl _ _) (by simp),hm.still 13 (some 2) _ (Below.refl _ _) (by decide) (by decide) (by decide),hx.still 13 (some 2) _ (Below.refl _ _) hli (by decide) (by decide) (.inr (by decide))⟩
     clear hv hd hq hm hx ha hK hA hli;go_simp;exact hF
 · intro lz fz w6 hall ⟨hv,hd,hq,hm,hx⟩
   have l:=fun k (hk:k < 14)=>hall k hk
   have h2:=(hd (⟨13,2,[(12,17)],fun f=>f 17,fun f g h=>by simp at h;simp [h]⟩:DepT2) (by simp) (l 13 (by decide))).2
   simp only at h2
   obtain ⟨-,Z,e17,hZ3,hE,n7,n9,n10,n12⟩:=hx (l 12 (by decide))
   obtain ⟨m,e12,hM⟩:=hm.1 (l 6 (by decide))
   rw [l 9 (by decide)] at hM
   simp only [if_true] at hM
   have o7:=hq.own (⟨1,7,.rowB w3.heap.size 142 2 S.length (flatE S)⟩:ObT) (by simp) (l 1 (by decide))
   have o9:=hq.own (⟨3,9,.rowB w3.heap.size 37 6 1 [.int .i64 x.bef,.int .i64 x.hgt,.int .i64 x.view,.slice xa xn xc,.int .i64 x.root,.int .i64 x.effs]⟩:ObT) (by simp) (l 3 (by decide))
   have o10:=hq.own (⟨4,10,.rowB w3.heap.size 3 1 1 [.int .i64 (-1)]⟩:ObT) (by simp) (l 4 (by decide))
   have o12:=hq.own (⟨6,12,.someMap⟩:ObT) (by simp) (l 6 (by decide))
   have a79:=hq.apart (⟨1,7,.rowB w3.heap.size 142 2 S.length (flatE S)⟩:ObT) (by simp) (⟨3,9,.rowB w3.heap.size 37 6 1 [.int .i64 x.bef,.int .i64 x.hgt,.int .i64 x.view,.slice xa xn xc,.int .i64 x.root,.int .i64 x.effs]⟩:ObT) (by simp) (by simp) (l 1 (by decide)) (l 3 (by decide))
   have a710:=hq.apart (⟨1,7,.rowB w3.heap.size 142 2 S.length (flatE S)⟩:ObT) (by simp) (⟨4,10,.rowB w3.heap.size 3 1 1 [.int .i64 (-1)]⟩:ObT) (by simp) (by simp) (l 1 (by decide)) (l 4 (by decide))
   have a109:=hq.apart (⟨4,10,.rowB w3.heap.size 3 1 1 [.int .i64 (-1)]⟩:ObT) (by simp) (⟨3,9,.rowB w3.heap.size 37 6 1 [.int .i64 x.bef,.int .i64 x.hgt,.int .i64 x.view,.slice xa xn xc,.int .i64 x.root,.int .i64 x.effs]⟩:ObT) (by simp) (by simp) (l 4 (by decide)) (l 3 (by decide))
   have m7:=hq.apart (⟨6,12,.someMap⟩:ObT) (by simp) (⟨1,7,.rowB w3.heap.size 142 2 S.length (flatE S)⟩:ObT) (by simp) (by simp) (l 6 (by decide)) (l 1 (by decide)) m
   have m9:=hq.apart (⟨6,12,.someMap⟩:ObT) (by simp) (⟨3,9,.rowB w3.heap.size 37 6 1 [.int .i64 x.bef,.int .i64 x.hgt,.int .i64 x.view,.slice xa xn xc,.int .i64 x.root,.int .i64 x.effs]⟩:ObT) (by simp) (by simp) (l 6 (by decide)) (l 3 (by decide)) m
   have m10:=hq.apart (⟨6,12,.someMap⟩:ObT) (by simp) (⟨4,10,.rowB w3.heap.size 3 1 1 [.int .i64 (-1)]⟩:ObT) (by simp) (by simp) (l 6 (by decide)) (l 4 (by decide)) m
   simp only at o7 o9 o10 o12 a79 a710 a109 m7 m9 m10
   rw [e12] at o12 m7 m9 m10 hE n12
   have hmb:blk (.map (some m))=some m:=rfl
   have hbB:=hq.below
   have hB6:=HB3.out.trans (hbB.mono HB3.out.size)
   have hmw:=o12.2 m hmb
   have hs3:=HSX2.out
   have hs2:=HB2.out.size
   have ox:=owns_below HO2.out (HB23.out.trans (hbB.mono HB23.out.size))
   have nx:∀ p,blk (.slice xa xn xc)=some p→p < w2.heap.size:=fun p hp=>by rw [owns_blk HO2.out] at hp;exact (HO2.out.lt p hp).2
   have ge:∀ {e:TypeId} {sz k:Nat} {v:Value} {cs:List Value},w6.ownsRow w3.heap.size e sz v k cs→∀ p,blk v=some p→w3.heap.size≤p:=fun ho p hp=>by rw [owns_blk ho] at hp;exact (ho.lt p hp).1
   have hOR:OwnR w6 w.heap.size w6.heap.size (treRs tTreP (fz 7) (fz 9) (fz 10) ⟨S,[x],[-1]⟩ [.slice xa xn xc]):=by
    have e1:treRs tTreP (fz 7) (fz 9) (fz 10) ⟨S,[x],[-1]⟩ [.slice xa xn xc]=[⟨fz 7,142,2,S.length,flatE S⟩,⟨fz 10,3,1,1,[.int .i64 (-1)]⟩,⟨fz 9,37,6,1,[.int .i64 x.bef,.int .i64 x.hgt,.int .i64 x.view,.slice xa xn xc,.int .i64 x.root,.int .i64 x.effs]⟩,⟨.slice xa xn xc,113,4,x.acts.length,flatA x.acts⟩]:=rfl
    rw [e1]
    have hown:∀ r∈([⟨fz 7,142,2,S.length,flatE S⟩,⟨fz 10,3,1,1,[.int .i64 (-1)]⟩,⟨fz 9,37,6,1,[.int .i64 x.bef,.int .i64 x.hgt,.int .i64 x.view,.slice xa xn xc,.int .i64 x.root,.int .i64 x.effs]⟩,⟨.slice xa xn xc,113,4,x.acts.length,flatA x.acts⟩]:List Rw),w6.ownsRow w.heap.size r.e r.size r.v r.n r.cs:=by
     intro r hr
     simp only [List.mem_cons,List.not_mem_nil,or_false] at hr
     rcases hr with rfl | rfl | rfl | rfl
     · exact owns_mono o7.1 (by omega)
     · exact owns_mono o10.1 (by omega)
     · exact owns_mono o9.1 (by omega)
     · exact ox
    refine ⟨hown,fun r hr b hb=>?_,?_⟩
    · have h1:=hown r hr
      rw [owns_blk h1] at hb;exact (h1.lt b hb).2
    · simp only [List.pairwise_cons,List.mem_cons,List.not_mem_nil,or_false,List.Pairwise.nil,and_true]
      refine ⟨fun r hr p hp hp2=>?_,fun r hr p hp hp2=>?_,fun r hr p hp hp2=>?_,fun r hr=>hr.elim⟩
      · rcases hr with rfl | rfl | rfl
        · exact a710 p hp hp2
        · exact a79 p hp hp2
        · have:=ge o7.1 p hp;have:=nx p hp2;omega
      · rcases hr with rfl | rfl
        · exact a109 p hp hp2
        · have:=ge o10.1 p hp;have:=nx p hp2;omega
      · subst hr
        have:=ge o9.1 p hp;have:=nx p hp2;omega
   have hoff:∀ Y,w3.heap.size≤Y→blk (fz 7)≠some Y→blk (fz 10)≠some Y→blk (fz 9)≠some Y→∀ r∈treRs tTreP (fz 7) (fz 9) (fz 10) ⟨S,[x],[-1]⟩ [.slice xa xn xc],blk r.v≠some Y:=by
    intro Y hY h7 h10 h9 r hr
    have e1:treRs tTreP (fz 7) (fz 9) (fz 10) ⟨S,[x],[-1]⟩ [.slice xa xn xc]=[⟨fz 7,142,2,S.length,flatE S⟩,⟨fz 10,3,1,1,[.int .i64 (-1)]⟩,⟨fz 9,37,6,1,[.int .i64 x.bef,.int .i64 x.hgt,.int .i64 x.view,.slice xa xn xc,.int .i64 x.root,.int .i64 x.effs]⟩,⟨.slice xa xn xc,113,4,x.acts.length,flatA x.acts⟩]:=rfl
    rw [e1] at hr
    simp only [List.mem_cons,List.not_mem_nil,or_false] at hr
    rcases hr with rfl | rfl | rfl | rfl
    · exact h7
    · exact h10
    · exact h9
    · intro e;have:=nx Y e;omega
   have hTW:TreWf ⟨S,[x],[-1]⟩:=⟨HWFE.out,fun y hy=>(by simp at hy;subst hy;rfl),⟨fun y hy=>(by simp at hy;subst hy;exact ⟨HWB.out,HWA.out,Nat.le_trans HLA.out (by omega)⟩),by simp⟩,by show S.length≤_;rw [HLS.out];omega,by simp⟩
   have hfin:TrIx w6 w.heap.size Z m tTreP (fz 7) (fz 9) (fz 10) ⟨S,[x],[-1]⟩ [.slice xa xn xc] :=
    ⟨hE,hOR,by rw [HFE.out] at hM;exact hM,rfl,hTW,by omega,by omega,fun e=>n12 (by rw [hmb,e]),hoff Z hZ3 n7 n10 n9,hoff m hmw (m7 hmb) (m10 hmb) (m9 hmb)⟩
   have HFIN:=Lib.hid hfin
   have HB6:=Lib.hid hB6
   have hp2:fz 2 = .pointer (some ⟨Z,0,none⟩):=by rw [h2,e17]
   clear hfin hB6 hTW hoff hOR ge nx ox o7 o9 o10 o12 a79 a710 a109 m7 m9 m10 hE n7 n9 n10 n12 hM h2 e17 e12 hv hd hq hm hx l hall hbB hmw hmb hZ3
   simp only [mixF,List.contains_cons,List.contains_nil]
   go_simp
   go_wp2_with fail
   go_ret
   exact ⟨Z,m,_,_,_,_,rfl,by rw [HTO.out,← HX.out];exact HFIN.out,HB6.out⟩
open Go.RowKit
def IxOf (w:World) (tT:TreT) (t:Tre) (e:Ending) (w':World):Prop :=
 Below w.heap.size w w'∧(treB t=false→e = .returned (.tuple #[.pointer none,.bool false]))∧(treB t=true→∃ Z m u1 u2 u3 ts,e = .returned (.tuple #[.pointer (some ⟨Z,0,none⟩),.bool true])∧TrIx w' w.heap.size Z m tT u1 u2 u3 t ts)
theorem ixOf_no {w w':World} {tT:TreT} {t:Tre} (hb:Below w.heap.size w w') (h:treB t=false):IxOf w tT t (.returned (.tuple #[.pointer none,.bool false])) w':=⟨hb,fun _=>rfl,fun e=>by rw [h] at e;cases e⟩
theorem equals_implV (x y:Blk) (a a':Option Addr) (n c n' c':Nat) (w:World) (h:RowA w a n x.acts) (h':RowA w a' n' y.acts) :
  Calls Tryz.prog 127 #[.agg #[.int .i64 x.bef,.int .i64 x.hgt,.int .i64 x.view,.slice a n c,.int .i64 x.root,.int .i64 x.effs],.agg #[.int .i64 y.bef,.int .i64 y.hgt,.int .i64 y.view,.slice a' n' c',.int .i64 y.root,.int .i64 y.effs]] w (BoolB (decide (x=y)) w):=equals_impl x.bef x.hgt x.view x.root x.effs y.bef y.hgt y.view y.root y.effs a a' n c n' c' x.acts y.acts w h h'
set_option maxRecDepth 100000 in
set_option maxHeartbeats 8000000 in
theorem indexedTreeOf_impl (v1 v2 v3:Value) (t:Tre) (w:World) (h:TreRd w v1 v2 v3 t) :
  Calls Tryz.prog 69 #[.agg #[v1,v2,v3]] w (IxOf w tTreP t):=by
 obtain ⟨⟨a1,n1,c1,rfl,r1,z1,l1⟩,⟨a2,n2,c2,rfl,r2,z2,l2⟩,a3,n3,c3,rfl,r3,z3,l3⟩:=h
 have hl1:=r1.1
 have hl2:t.blocks.length=n2:=r2.1
 have hl3:t.bef.length=n3:=r3.1
 have hm2:=r2.2.1
 have hm3:=r3.2.1
 unfold maxLen at hm2 hm3
 have hb0:=(Below.refl w.heap.size w).alloc (Nat.le_refl _) (.cells #[.slice a1 n1 c1,.slice a2 n2 c2,.slice a3 n3 c3] 27)
 have hg0:=trAt_new w 27 (.slice a1 n1 c1) (.slice a2 n2 c2) (.slice a3 n3 c3)
 obtain ⟨W1,hW1⟩:∃ W1,W1=w.alloc (.cells #[.slice a1 n1 c1,.slice a2 n2 c2,.slice a3 n3 c3] 27):=⟨_,rfl⟩
 have HW1:=Lib.hid hW1
 rw [← hW1] at hb0 hg0
 clear hW1
 have HZW:Hid (w.heap.size < W1.heap.size):=Lib.hid hg0.lt
 have HK:=Lib.hid (fun (W:World) (hb:Below W1.heap.size W1 W)=>(⟨hg0.below hb,(r1.below hb0).below hb,(r2.below hb0).below hb,(r3.below hb0).below hb,hb0.trans (hb.mono hb0.size)⟩:TrAt W w.heap.size (.slice a1 n1 c1) (.slice a2 n2 c2) (.slice a3 n3 c3)∧RowE W a1 n1 t.base∧RowBs W a2 n2 t.blocks∧RowI W a3 n3 t.bef∧Below w.heap.size w W))
 clear hb0 hg0 r1 r2 r3 z2 z3 l1 l2 l3
 have HL1:=Lib.hid hl1
 have HL2:=Lib.hid hl2
 have HL3:=Lib.hid hl3
 clear hl1 hl2 hl3
 cases e0:storeB t.base with
 | false =>
  have HR:=Lib.hid (tre_no_base e0)
  go_enter Tryz.func69,Tryz.ntmps69
  go_upto_region 1 with (fail)
  rw [← HW1.out]
  clear HW1
  obtain ⟨⟨x0,x1,x2,-⟩,q1,-,-,-⟩:=HK.out W1 (Below.refl _ _)
  have Q1:=Lib.hid q1
  clear q1
  go_wp2_with fail
  refine (storeValid_impl _ _ _ _ _ Q1.out).mono ?_;rintro e w2 ⟨rfl,hb2⟩
  have HB2:=Lib.hid hb2
  clear x0 x1 x2 Q1 hb2
  obtain ⟨⟨x0,x1,x2,-⟩,-,-,-,hbf⟩:=HK.out w2 HB2.out
  have HBF:=Lib.hid hbf
  clear hbf
  rw [e0]
  go_wp2_with fail
  go_ret2
  exact ixOf_no HBF.out HR.out
 | true =>
 by_cases h1:n2=0
 case pos =>
  have HR:=Lib.hid (tre_no_one (t:=t) (by rw [HL2.out];exact h1))
  have e1:((n2:Int) == 0)=true:=by simp;omega
  clear h1
  go_enter Tryz.func69,Tryz.ntmps69
  go_upto_region 1 with (fail)
  rw [← HW1.out]
  clear HW1
  obtain ⟨⟨x0,x1,x2,-⟩,q1,-,-,-⟩:=HK.out W1 (Below.refl _ _)
  have Q1:=Lib.hid q1
  clear q1
  go_wp2_with fail
  refine (storeValid_impl _ _ _ _ _ Q1.out).mono ?_;rintro e w2 ⟨rfl,hb2⟩
  have HB2:=Lib.hid hb2
  clear x0 x1 x2 Q1 hb2
  obtain ⟨⟨x0,x1,x2,-⟩,-,-,-,hbf⟩:=HK.out w2 HB2.out
  have HBF:=Lib.hid hbf
  clear hbf
  rw [e0]
  go_wp2_with fail
  go_ret2
  exact ixOf_no HBF.out HR.out
 have e1:((n2:Int) == 0)=false:=by simp;omega
 have hn0:0 < n2:=by omega
 clear h1
 by_cases h2:n3=n2
 case neg =>
  have HR:=Lib.hid (tre_no_len (t:=t) (by rw [HL2.out,HL3.out];exact h2))
  have e2:((n3:Int) != (n2:Int))=true:=by simp;omega
  clear h2
  go_enter Tryz.func69,Tryz.ntmps69
  go_upto_region 1 with (fail)
  rw [← HW1.out]
  clear HW1
  obtain ⟨⟨x0,x1,x2,-⟩,q1,-,-,-⟩:=HK.out W1 (Below.refl _ _)
  have Q1:=Lib.hid q1
  clear q1
  go_wp2_with fail
  refine (storeValid_impl _ _ _ _ _ Q1.out).mono ?_;rintro e w2 ⟨rfl,hb2⟩
  have HB2:=Lib.hid hb2
  clear x0 x1 x2 Q1 hb2
  obtain ⟨⟨x0,x1,x2,-⟩,-,-,-,hbf⟩:=HK.out w2 HB2.out
  have HBF:=Lib.hid hbf
  clear hbf
  rw [e0]
  go_wp2_with fail
  go_ret2
  exact ixOf_no HBF.out HR.out
 have e2:((n3:Int) != (n2:Int))=false:=by simp;omega
 obtain rfl:=h2.symm
 have HS:=Lib.hid e0
 have hn1:n1≤3000000:=by have:=(storeB_ok _).1 e0;have:=store_len e0;have:=HL1.out;omega
 go_enter Tryz.func69,Tryz.ntmps69
 go_upto_region 1 with (fail)
 rw [← HW1.out]
 clear HW1
 obtain ⟨⟨x0,x1,x2,-⟩,q1,-,-,-⟩:=HK.out W1 (Below.refl _ _)
 have Q1:=Lib.hid q1
 clear q1
 go_wp2_with fail
 refine (storeValid_impl _ _ _ _ _ Q1.out).mono ?_;rintro e w2 ⟨rfl,hb2⟩
 have HB2:=Lib.hid hb2
 clear x0 x1 x2 Q1 hb2
 obtain ⟨⟨x0,x1,x2,-⟩,-,-,-,hbf⟩:=HK.out w2 HB2.out
 have HBF:=Lib.hid hbf
 clear hbf
 rw [e0]
 clear e0
 go_wp2_with fail
 refine (newTree_impl a1 n1 c1 t.base _ (HK.out w2 HB2.out).2.1 z1 HS.out hn1).mono ?_;rintro e w3 ⟨Z,m,u1,u2,u3,ts,rfl,hix,hb3⟩
 have HB3:=Lib.hid (HB2.out.trans (hb3.mono HB2.out.size))
 have hix1:=hix.mono HB2.out.size
 have e9:treOfM t.base=⟨t.base,[firstM t.base],[-1]⟩:=by unfold treOfM;rw [if_pos HS.out]
 rw [e9] at hix1
 have HIX:=Lib.hid hix1
 clear hix hix1 hb3 x0 x1 x2 e1 e2 e9 HBF HB2
 obtain ⟨b2,off2,rfl,hbk⟩:=(HK.out w3 HB3.out).2.2.1.at 0 hn0
 obtain ⟨b3,off3,rfl,hc3⟩:=(HK.out w3 HB3.out).2.2.2.1.2.2.1 hn0
 have hc30:=hc3 0 hn0
 simp only [Nat.add_zero] at hc30
 obtain ⟨x,hx⟩:∃ x,x=t.blocks.getD 0 noBlk:=⟨_,rfl⟩
 obtain ⟨f0,hf0⟩:∃ f0,f0=t.bef.getD 0 0:=⟨_,rfl⟩
 rw [← hx] at hbk
 rw [← hf0] at hc30
 have HX:=Lib.hid hx
 have HF0:=Lib.hid hf0
 obtain ⟨g0,g1,g2,⟨v,g3,a',n',c',rfl,ra,-,-⟩,g4,g5⟩:=hbk
 simp only [Nat.zero_mul,Nat.add_zero] at g0 g1 g2 g3 g4 g5
 obtain ⟨a4,n4,c4,rfl,r4,-,-⟩:=HIX.out.rd.blocks
 obtain rfl:1=n4:=r4.1
 obtain ⟨b5,off5,rfl,hbk5⟩:=r4.at 0 (by omega)
 obtain ⟨y,hy⟩:∃ y,y=firstM t.base:=⟨_,rfl⟩
 have HY:=Lib.hid hy
 simp only [List.getD_cons_zero] at hbk5
 rw [← hy] at hbk5
 obtain ⟨k0,k1,k2,⟨v,k3,a5,n5,c5,rfl,ra5,-,-⟩,k4,k5⟩:=hbk5
 simp only [Nat.zero_mul,Nat.add_zero] at k0 k1 k2 k3 k4 k5
 have HRA:=Lib.hid ra
 have HRA5:=Lib.hid ra5
 clear hc3 hx hf0 hy ra ra5 r4
 obtain ⟨⟨x0,x1,x2,-⟩,-,-,-,-⟩:=HK.out w3 HB3.out
 obtain ⟨y0,y1,y2,y3,-⟩:=HIX.out.box
 have hzw:=World.block_lt_of_cell? w3 ⟨w.heap.size,0,none⟩ x0
 have hb2w:=World.block_lt_of_cell? w3 ⟨b2,off2,none⟩ g0
 have hb3w:=World.block_lt_of_cell? w3 ⟨b3,off3,none⟩ hc30
 have hb5w:=World.block_lt_of_cell? w3 ⟨b5,off5,none⟩ k0
 have hZw:=HIX.out.box.lt
 have HKP:Hid (∀ W':World,Below w3.heap.size w3 W'→((W'.cell? ⟨w.heap.size,0,none⟩=some (.slice a1 n1 c1)∧W'.cell? ⟨w.heap.size,1,none⟩=some (.slice (some ⟨b2,off2,none⟩) n2 c2)∧W'.cell? ⟨w.heap.size,2,none⟩=some (.slice (some ⟨b3,off3,none⟩) n2 c3))∧(W'.cell? ⟨b2,off2,none⟩=some (.int .i64 x.bef)∧W'.cell? ⟨b2,off2+1,none⟩=some (.int .i64 x.hgt)∧W'.cell? ⟨b2,off2+2,none⟩=some (.int .i64 x.view)∧W'.cell? ⟨b2,off2+3,none⟩=some (Value.slice a' n' c')∧W'.cell? ⟨b2,off2+4,none⟩=some (.int .i64 x.root)∧W'.cell? ⟨b2,off2+5,none⟩=some (.int .i64 x.effs))∧W'.cell? ⟨b3,off3,none⟩=some (.int .i64 f0)∧W'.cell? ⟨Z,1,none⟩=some (.slice (some ⟨b5,off5,none⟩) 1 c4)∧(W'.cell? ⟨b5,off5,none⟩=some (.int .i64 y.bef)∧W'.cell? ⟨b5,off5+1,none⟩=some (.int .i64 y.hgt)∧W'.cell? ⟨b5,off5+2,none⟩=some (.int .i64 y.view)∧W'.cell? ⟨b5,off5+3,none⟩=some (Value.slice a5 n5 c5)∧W'.cell? ⟨b5,off5+4,none⟩=some (.int .i64 y.root)∧W'.cell? ⟨b5,off5+5,none⟩=some (.int .i64 y.effs)))):=Lib.hid (fun W' hb=>⟨⟨below_cell hb hzw x0,below_cell hb hzw x1,below_cell hb hzw x2⟩,⟨below_cell hb hb2w g0,below_cell hb hb2w g1,below_cell hb hb2w g2,below_cell hb hb2w g3,below_cell hb hb2w g4,below_cell hb hb2w g5⟩,below_cell hb hb3w hc30,below_cell hb hZw y1,below_cell hb hb5w k0,below_cell hb hb5w k1,below_cell hb hb5w k2,below_cell hb hb5w k3,below_cell hb hb5w k4,below_cell hb hb5w k5⟩)
 clear hzw hb2w hb3w hb5w hZw x0 x1 x2 g0 g1 g2 g3 g4 g5 hc30 y0 y1 y2 y3 k0 k1 k2 k3 k4 k5
 have i1:(0:Int) < (n2:Int):=by omega
 by_cases h5:x=y
 case neg =>
  have HR:=Lib.hid (tre_no_fst (t:=t) (by simp only [blkAt];rw [← HX.out,← HY.out];exact h5))
  have e5:decide (x=y)=false:=decide_eq_false h5
  obtain ⟨q,hq⟩:∃ q,decide (x=y)=q:=⟨_,rfl⟩
  have HQ:=Lib.hid hq
  rw [hq] at e5
  clear h5 hq
  go_upto_region 4 with (fail)
  refine wp_region_light (by kernel_rfl) (fun lz fz wz=>Vals [(0,28,(.pointer (some ⟨w.heap.size,1,none⟩))),(1,29,(.slice (some ⟨b2,off2,none⟩) n2 c2)),(2,30,(.pointer (some ⟨b2,off2,none⟩))),(3,31,(.agg #[.int .i64 x.bef,.int .i64 x.hgt,.int .i64 x.view,Value.slice a' n' c',.int .i64 x.root,.int .i64 x.effs])),(4,32,(.pointer (some ⟨Z,0,none⟩))),(5,33,(.pointer (some ⟨Z,0,none⟩))),(6,34,(.pointer (some ⟨Z,0,none⟩))),(7,35,(.pointer (some ⟨Z,1,none⟩))),(8,36,(.slice (some ⟨b5,off5,none⟩) 1 c4)),(9,37,(.pointer (some ⟨b5,off5,none⟩))),(10,38,(.agg #[.int .i64 y.bef,.int .i64 y.hgt,.int .i64 y.view,Value.slice a5 n5 c5,.int .i64 y.root,.int .i64 y.effs])),(11,39,(.bool false)),(12,40,(.bool true)),(13,41,(.bool true)),(19,47,(.bool true))] lz fz∧Facts w3 [] lz fz wz) 80 rfl [28,29,30,31,32,33,34,35,36,37,38,39,40,41,42,43,44,45,46,47] (by kernel_rfl) (by kernel_rfl) (by kernel_rfl) (fun f=>⟨Vals.nothing _ f,Facts.nothing _ _ f⟩) ?_ ?_
  · intro i hi
    rcases (by have:i < 20:=hi;omega:i=0∨i=1∨i=2∨i=3∨i=4∨i=5∨i=6∨i=7∨i=8∨i=9∨i=10∨i=11∨i=12∨i=13∨i=14∨i=15∨i=16∨i=17∨i=18∨i=19) with rfl | rfl | rfl | rfl | rfl | rfl | rfl | rfl | rfl | rfl | rfl | rfl | rfl | rfl | rfl | rfl | rfl | rfl | rfl | rfl
    all_goals (clear hi;intro o ho lz fz w' A ⟨hv,hr⟩ hli ha hA K hK;obtain rfl:=Option.some.inj ho;clear ho)
    · have gg1:=so hA 1 _ rfl
      simp only [List.getD_cons_succ,List.getD_cons_zero] at gg1
      rw [if_pos (by rfl)]
      have hF:=hK _ w' ⟨hv.put 0 0 28 rfl rfl rfl,hr.nil⟩
      clear hv hr ha hK hA hli;go_simp;exact hF
    · have gg28:=sj hA 28 (hv.at 0 rfl (ha 0 (by decide)))
      rw [if_pos (by rfl)]
      obtain ⟨⟨kx0,kx1,kx2⟩,⟨kg0,kg1,kg2,kg3,kg4,kg5⟩,kc3,ky1,kk0,kk1,kk2,kk3,kk4,kk5⟩:=HKP.out w' hr.1
      have hF:=hK _ w' ⟨hv.put 1 1 29 rfl rfl rfl,hr.nil⟩
      clear hv hr ha hK hA hli;go_simp;exact hF
    · have gg29:=sj hA 29 (hv.at 1 rfl (ha 1 (by decide)))
      rw [if_pos (by rfl)]
      have hF:=hK _ w' ⟨hv.put 2 2 30 rfl rfl rfl,hr.nil⟩
      clear hv hr ha hK hA hli;go_simp;exact hF
    · have gg30:=sj hA 30 (hv.at 2 rfl (ha 2 (by decide)))
      rw [if_pos (by rfl)]
      obtain ⟨⟨kx0,kx1,kx2⟩,⟨kg0,kg1,kg2,kg3,kg4,kg5⟩,kc3,ky1,kk0,kk1,kk2,kk3,kk4,kk5⟩:=HKP.out w' hr.1
      have hF:=hK _ w' ⟨hv.put 3 3 31 rfl rfl rfl,hr.nil⟩
      clear hv hr ha hK hA hli;go_simp;exact hF
    · have gg4:=so hA 4 _ rfl
      simp only [List.getD_cons_succ,List.getD_cons_zero] at gg4
      rw [if_pos (by rfl)]
      have hF:=hK _ w' ⟨hv.put 4 4 32 rfl rfl rfl,hr.nil⟩
      clear hv hr ha hK hA hli;go_simp;exact hF
    · have gg32:=sj hA 32 (hv.at 4 rfl (ha 4 (by decide)))
      rw [if_pos (by rfl)]
      have hF:=hK _ w' ⟨hv.put 5 5 33 rfl rfl rfl,hr.nil⟩
      clear hv hr ha hK hA hli;go_simp;exact hF
    · have gg33:=sj hA 33 (hv.at 5 rfl (ha 5 (by decide)))
      rw [if_pos (by rfl)]
      have hF:=hK _ w' ⟨hv.put 6 6 34 rfl rfl rfl,hr.nil⟩
      clear hv hr ha hK hA hli;go_simp;exact hF
    · have gg34:=sj hA 34 (hv.at 6 rfl (ha 6 (by decide)))
      rw [if_pos (by rfl)]
      have hF:=hK _ w' ⟨hv.put 7 7 35 rfl rfl rfl,hr.nil⟩
      clear hv hr ha hK hA hli;go_simp;exact hF
    · have gg35:=sj hA 35 (hv.at 7 rfl (ha 7 (by decide)))
      rw [if_pos (by rfl)]
      obtain ⟨⟨kx0,kx1,kx2⟩,⟨kg0,kg1,kg2,kg3,kg4,kg5⟩,kc3,ky1,kk0,kk1,kk2,kk3,kk4,kk5⟩:=HKP.out w' hr.1
      have hF:=hK _ w' ⟨hv.put 8 8 36 rfl rfl rfl,hr.nil⟩
      clear hv hr ha hK hA hli;go_simp;exact hF
    · have gg36:=sj hA 36 (hv.at 8 rfl (ha 8 (by decide)))
      rw [if_pos (by rfl)]
      have hF:=hK _ w' ⟨hv.put 9 9 37 rfl rfl rfl,hr.nil⟩
      clear hv hr ha hK hA hli;go_simp;exact hF
    · have gg37:=sj hA 37 (hv.at 9 rfl (ha 9 (by decide)))
      rw [if_pos (by rfl)]
      obtain ⟨⟨kx0,kx1,kx2⟩,⟨kg0,kg1,kg2,kg3,kg4,kg5⟩,kc3,ky1,kk0,kk1,kk2,kk3,kk4,kk5⟩:=HKP.out w' hr.1
      have hF:=hK _ w' ⟨hv.put 10 10 38 rfl rfl rfl,hr.nil⟩
      clear hv hr ha hK hA hli;go_simp;exact hF
    · have gg31:=sj hA 31 (hv.at 3 rfl (ha 3 (by decide)))
      have gg38:=sj hA 38 (hv.at 10 rfl (ha 10 (by decide)))
      rw [if_pos (by rfl)]
      clear hA
      go_simp
      refine (equals_implV x y a' a5 n' c' n5 c5 _ (HRA.out.below hr.1) (HRA5.out.below hr.1)).mono ?_
      rintro e9 w9 ⟨rfl,hb9⟩
      rw [HQ.out,e5]
      exact hK (.bool false) w9 ⟨hv.step 11 39 _ (by simp),hr.step 11 39 _ hb9 (by simp)⟩
    · have gg39:=sj hA 39 (hv.at 11 rfl (ha 11 (by decide)))
      rw [if_pos (by rfl)]
      have hF:=hK _ w' ⟨hv.put 12 12 40 rfl rfl rfl,hr.nil⟩
      clear hv hr ha hK hA hli;go_simp;exact hF
    · have gg40:=sj hA 40 (hv.at 12 rfl (ha 12 (by decide)))
      rw [if_pos (by rfl)]
      have hF:=hK _ w' ⟨hv.put 13 13 41 rfl rfl rfl,hr.nil⟩
      clear hv hr ha hK hA hli;go_simp;exact hF
    iterate 5
     · have g41:=si hA 41 (hv.at 13 rfl (ha 13 (by decide)))
       have gw:=slot_bool g41
       rw [if_neg (by simp [Region.wanted,yielded,gw])]
       exact hK undef w' ⟨hv.step _ _ _ (by simp),hr.step _ _ _ (Below.refl _ _) (by simp)⟩
    · have gg41:=sj hA 41 (hv.at 13 rfl (ha 13 (by decide)))
      rw [if_pos (by rfl)]
      have hF:=hK _ w' ⟨hv.put 14 19 47 rfl rfl rfl,hr.nil⟩
      clear hv hr ha hK hA hli;go_simp;exact hF
  · intro lz fz w6 hall ⟨hv,hq⟩
    have h47:=hv.at 14 rfl (hall 19 (by decide))
    have hbR:=hq.1
    clear hv hq hall
    simp only [mixF,List.contains_cons,List.contains_nil]
    go_simp
    have HBF:=Lib.hid (HK.out _ (HB3.out.trans (hbR.mono HB3.out.size))).2.2.2.2
    clear hbR
    go_wp2_with fail
    go_ret2
    exact ixOf_no HBF.out HR.out
 have HXY:=Lib.hid h5
 obtain ⟨q,hq⟩:∃ q,decide (x=y)=q:=⟨_,rfl⟩
 have HQ:=Lib.hid hq
 have e5:q=true:=by rw [← hq];exact decide_eq_true h5
 clear h5 hq
 by_cases h6:f0 = -1
 case neg =>
  have HR:=Lib.hid (tre_no_root (t:=t) (by rw [← HF0.out];exact h6))
  have e6:(f0 != -1)=true:=by simp [h6]
  clear h6
  go_upto_region 4 with (fail)
  have hkp0:=HKP.out _ (Below.refl _ _)
  go_region_held3 (fun W'=>((W'.cell? ⟨w.heap.size,0,none⟩=some (.slice a1 n1 c1)∧W'.cell? ⟨w.heap.size,1,none⟩=some (.slice (some ⟨b2,off2,none⟩) n2 c2)∧W'.cell? ⟨w.heap.size,2,none⟩=some (.slice (some ⟨b3,off3,none⟩) n2 c3))∧(W'.cell? ⟨b2,off2,none⟩=some (.int .i64 x.bef)∧W'.cell? ⟨b2,off2+1,none⟩=some (.int .i64 x.hgt)∧W'.cell? ⟨b2,off2+2,none⟩=some (.int .i64 x.view)∧W'.cell? ⟨b2,off2+3,none⟩=some (Value.slice a' n' c')∧W'.cell? ⟨b2,off2+4,none⟩=some (.int .i64 x.root)∧W'.cell? ⟨b2,off2+5,none⟩=some (.int .i64 x.effs))∧W'.cell? ⟨b3,off3,none⟩=some (.int .i64 f0)∧W'.cell? ⟨Z,1,none⟩=some (.slice (some ⟨b5,off5,none⟩) 1 c4)∧(W'.cell? ⟨b5,off5,none⟩=some (.int .i64 y.bef)∧W'.cell? ⟨b5,off5+1,none⟩=some (.int .i64 y.hgt)∧W'.cell? ⟨b5,off5+2,none⟩=some (.int .i64 y.view)∧W'.cell? ⟨b5,off5+3,none⟩=some (Value.slice a5 n5 c5)∧W'.cell? ⟨b5,off5+4,none⟩=some (.int .i64 y.root)∧W'.cell? ⟨b5,off5+5,none⟩=some (.int .i64 y.effs)))) (first | exact hkp0 | exact hkp | go_keep)
   (first | (go_at_call 127;refine (equals_implV x y a' a5 n' c' n5 c5 w3.drew (show RowA w3.drew _ _ _ from HRA.out) (show RowA w3.drew _ _ _ from HRA5.out)).mono ?_;rintro e1 w4 ⟨rfl,hb4'⟩;have hb4:=(Below.refl w3.heap.size w3).drew.trans hb4';have hkp:=HKP.out _ hb4;rw [HQ.out,e5]))
  have HB4:=Lib.hid (HB3.out.trans (hb4.mono HB3.out.size))
  have HIX4:=Lib.hid (HIX.out.below hb4)
  clear hkp hkp0 hb4 hb4' HKP HIX HRA HRA5
  have HBF:=Lib.hid (HK.out _ HB4.out).2.2.2.2
  go_wp2_with fail
  go_ret2
  exact ixOf_no HBF.out HR.out
 have e6:(f0 != -1)=false:=by simp [h6]
 have HPRE:Hid (t.pre 1=⟨t.base,[firstM t.base],[-1]⟩):=Lib.hid (by
  have:=tre_pre_one (t:=t) HS.out (by rw [HL2.out];exact hn0) (by rw [HL3.out,HL2.out]) (by rw [← HF0.out];exact h6) (by simp only [blkAt];rw [← HX.out,← HY.out];exact HXY.out)
  rw [this];unfold treOfM;rw [if_pos HS.out])
 clear h6
 go_upto_region 4 with (fail)
 have hkp0:=HKP.out _ (Below.refl _ _)
 go_region_held3 (fun W'=>((W'.cell? ⟨w.heap.size,0,none⟩=some (.slice a1 n1 c1)∧W'.cell? ⟨w.heap.size,1,none⟩=some (.slice (some ⟨b2,off2,none⟩) n2 c2)∧W'.cell? ⟨w.heap.size,2,none⟩=some (.slice (some ⟨b3,off3,none⟩) n2 c3))∧(W'.cell? ⟨b2,off2,none⟩=some (.int .i64 x.bef)∧W'.cell? ⟨b2,off2+1,none⟩=some (.int .i64 x.hgt)∧W'.cell? ⟨b2,off2+2,none⟩=some (.int .i64 x.view)∧W'.cell? ⟨b2,off2+3,none⟩=some (Value.slice a' n' c')∧W'.cell? ⟨b2,off2+4,none⟩=some (.int .i64 x.root)∧W'.cell? ⟨b2,off2+5,none⟩=some (.int .i64 x.effs))∧W'.cell? ⟨b3,off3,none⟩=some (.int .i64 f0)∧W'.cell? ⟨Z,1,none⟩=some (.slice (some ⟨b5,off5,none⟩) 1 c4)∧(W'.cell? ⟨b5,off5,none⟩=some (.int .i64 y.bef)∧W'.cell? ⟨b5,off5+1,none⟩=some (.int .i64 y.hgt)∧W'.cell? ⟨b5,off5+2,none⟩=some (.int .i64 y.view)∧W'.cell? ⟨b5,off5+3,none⟩=some (Value.slice a5 n5 c5)∧W'.cell? ⟨b5,off5+4,none⟩=some (.int .i64 y.root)∧W'.cell? ⟨b5,off5+5,none⟩=some (.int .i64 y.effs)))) (first | exact hkp0 | exact hkp | go_keep)
  (first | (go_at_call 127;refine (equals_implV x y a' a5 n' c' n5 c5 w3.drew (show RowA w3.drew _ _ _ from HRA.out) (show RowA w3.drew _ _ _ from HRA5.out)).mono ?_;rintro e1 w4 ⟨rfl,hb4'⟩;have hb4:=(Below.refl w3.heap.size w3).drew.trans hb4';have hkp:=HKP.out _ hb4;rw [HQ.out,e5]))
 have HB4:=Lib.hid (HB3.out.trans (hb4.mono HB3.out.size))
 have HIX4:=Lib.hid (HIX.out.below hb4)
 clear hkp hkp0 hb4 hb4' HKP HIX HRA HRA5
 have HT1:Hid (treB (t.pre 1)=true):=Lib.hid (by rw [HPRE.out];exact (treB_iff _).2 (treOk_one HS.out))
 go_wp2_with fail
 have HST:Hid (∃ u1 u2 u3 ts,TrIx w4 W1.heap.size Z m tTreP u1 u2 u3 (t.pre 1) ts):=Lib.hid ⟨_,_,_,_,by rw [HPRE.out];exact HIX4.out⟩
 clear HIX4 HPRE HX HF0 HY HXY HQ e5 e6 HB3
 go_loopw [5] (fun i wr=>∃ k:Nat,1≤k∧k≤n2∧i = .int .i64 k∧treB (t.pre k)=true∧(∃ u1 u2 u3 ts,TrIx wr W1.heap.size Z m tTreP u1 u2 u3 (t.pre k) ts)∧Below W1.heap.size W1 wr) (fun i _=>n2 - (intOf i).toNat)
 case atStart=>exact ⟨1,by omega,by omega,rfl,HT1.out,HST.out,HB4.out⟩
 case round =>
  clear HST HT1 HB4
  obtain ⟨k,hk1,hk,rfl,htb,⟨u1,u2,u3,ts,hix⟩,hb⟩:=hrel
  have HTB:=Lib.hid htb
  have HIX:=Lib.hid hix
  have HB:=Lib.hid hb
  clear htb hix hb
  by_cases hlt:k < n2
  · obtain ⟨b,off,hae,hbk⟩:=(HK.out W1 (Below.refl _ _)).2.2.1.at k hlt
    obtain ⟨b3',off3',h3e,hc3⟩:=(HK.out W1 (Below.refl _ _)).2.2.2.1.2.2.1 hn0
    obtain ⟨rfl,rfl⟩:b3=b3'∧off3=off3':=by simpa using h3e
    have hc3k:=hc3 k hlt
    have hwb:=(HK.out W1 (Below.refl _ _)).2.2.1.bd k hlt
    have hkl:k < t.blocks.length:=by rw [HL2.out];exact hlt
    have hlen:t.bef.length=t.blocks.length:=by rw [HL3.out,HL2.out]
    have HNP:=Lib.hid (fun (h:putB (t.pre k) (blkAt t.blocks k)=false)=>tre_no_put (t:=t) (by omega) hkl h)
    have HNB:=Lib.hid (fun (h:findL (t.blocks.take k) (blkAt t.blocks k).bef≠t.bef.getD k 0)=>tre_no_bef (t:=t) (by omega) hkl h)
    have HNX:=Lib.hid (fun (hp:putB (t.pre k) (blkAt t.blocks k)=true) (he:findL (t.blocks.take k) (blkAt t.blocks k).bef=t.bef.getD k 0)=>(⟨tre_pre_next hkl hlen HTB.out hp he,pre_next hkl hlen he⟩:treB (t.pre (k+1))=true∧(t.pre k).add (blkAt t.blocks k)=t.pre (k+1)))
    have HPL:Hid ((t.pre k).bef.length=k):=Lib.hid (by simp [Tre.pre];rw [HL3.out];omega)
    have hwi:(Lit.int .i64 (findL (t.blocks.take k) (blkAt t.blocks k).bef)).wf=true:=by
     have h1:=findL_bd (t.blocks.take k) (blkAt t.blocks k).bef
     have h2:(t.blocks.take k).length≤n2:=by rw [List.length_take,HL2.out];omega
     exact WalkArith.wf_i64 (by omega)
    simp only [blkAt] at HNP HNB HNX hwi
    obtain ⟨x,hx⟩:∃ x,x=t.blocks.getD k noBlk:=⟨_,rfl⟩
    rw [← hx] at hbk HNP HNB HNX hwb hwi
    clear hx h3e hc3 hkl hlen
    obtain ⟨f,hfe⟩:∃ f,f=t.bef.getD k 0:=⟨_,rfl⟩
    rw [← hfe] at hc3k HNB HNX
    clear hfe
    obtain ⟨fn,hfn⟩:∃ fn,fn=findL (t.blocks.take k) x.bef:=⟨_,rfl⟩
    rw [← hfn] at HNB HNX hwi
    have HFN:=Lib.hid hfn
    clear hfn
    obtain ⟨g0,g1,g2,⟨v,g3,a',n',c',rfl,ra,za,-⟩,g4,g5⟩:=hbk
    have hNE:0 < n'→∀ p o,a'=some ⟨p,o,none⟩→p≠m:=fun h0 p o he=>by
     obtain ⟨p',o',he',hcc⟩:=ra.2.2.1 h0
     rw [he] at he'
     obtain ⟨rfl,rfl⟩:p=p'∧o=o':=by simpa using he'
     have h1:=World.block_lt_of_cell? W1 ⟨p,o+0*4,none⟩ (hcc 0 h0).1
     have h2:=HIX.out.mB
     simp only at h1
     omega
    have HNE:=Lib.hid hNE
    obtain ⟨⟨x0,x1,x2,-⟩,-,-,-,-⟩:=HK.out W1 (Below.refl _ _)
    obtain ⟨rfl,rfl⟩:b=b2∧off=off2:=by simpa using hae.symm
    clear hae
    have hzw:=World.block_lt_of_cell? W1 ⟨w.heap.size,0,none⟩ x0
    have hbw:=World.block_lt_of_cell? W1 ⟨b,off+k*6,none⟩ g0
    have hb3w:=World.block_lt_of_cell? W1 ⟨b3,off3+k,none⟩ hc3k
    have HKP:Hid (∀ W':World,Below W1.heap.size W1 W'→(W'.cell? ⟨w.heap.size,0,none⟩=some (.slice a1 n1 c1)∧W'.cell? ⟨w.heap.size,1,none⟩=some (.slice (some ⟨b,off,none⟩) n2 c2)∧W'.cell? ⟨w.heap.size,2,none⟩=some (.slice (some ⟨b3,off3,none⟩) n2 c3))∧(W'.cell? ⟨b,off+k*6,none⟩=some (.int .i64 x.bef)∧W'.cell? ⟨b,off+k*6+1,none⟩=some (.int .i64 x.hgt)∧W'.cell? ⟨b,off+k*6+2,none⟩=some (.int .i64 x.view)∧W'.cell? ⟨b,off+k*6+3,none⟩=some (Value.slice a' n' c')∧W'.cell? ⟨b,off+k*6+4,none⟩=some (.int .i64 x.root)∧W'.cell? ⟨b,off+k*6+5,none⟩=some (.int .i64 x.effs))∧W'.cell? ⟨b3,off3+k,none⟩=some (.int .i64 f)∧RowA W' a' n' x.acts):=Lib.hid (fun W' hb=>⟨⟨below_cell hb hzw x0,below_cell hb hzw x1,below_cell hb hzw x2⟩,⟨below_cell hb hbw g0,below_cell hb hbw g1,below_cell hb hbw g2,below_cell hb hbw g3,below_cell hb hbw g4,below_cell hb hbw g5⟩,below_cell hb hb3w hc3k,ra.below hb⟩)
    clear hzw hbw hb3w x0 x1 x2 g0 g1 g2 g3 g4 g5 hc3k ra hNE
    have HZA:=Lib.hid za
    have HWB:=Lib.hid hwb
    have HWI:=Lib.hid hwi
    clear za hwb hwi
    have i1:(0:Int)≤(k:Int):=by omega
    have i2:(k:Int) < (n2:Int):=by omega
    obtain ⟨⟨x0,x1,x2⟩,⟨g0,g1,g2,g3,g4,g5⟩,hc3k,-⟩:=HKP.out wr HB.out
    have HPUT:=Lib.hid (put_impl W1.heap.size Z m u1 u2 u3 (t.pre k) ts x a' n' c' wr.drew (HIX.out.below (Below.refl _ _).drew) HTB.out (show RowA wr.drew a' n' x.acts from (HKP.out wr HB.out).2.2.2) HZA.out HWB.out HNE.out)
    cases hpb:putB (t.pre k) x with
    | false =>
     have HR:=Lib.hid (HNP.out hpb)
     have HPB:=Lib.hid hpb
     clear hpb
     go_upto_region 9 with (fail)
     refine wp_region_light (by kernel_rfl) (fun lz fz wz=>Vals [(0,55,(.pointer (some ⟨Z,0,none⟩))),(1,56,(.pointer (some ⟨w.heap.size,1,none⟩))),(2,57,(.slice (some ⟨b,off,none⟩) n2 c2)),(3,58,(.int .i64 (k:Int))),(4,59,(.pointer (some ⟨b,off+k*6,none⟩))),(5,60,(.agg #[.int .i64 x.bef,.int .i64 x.hgt,.int .i64 x.view,Value.slice a' n' c',.int .i64 x.root,.int .i64 x.effs])),(6,61,(.bool false)),(7,62,(.bool true)),(8,63,(.bool true)),(23,78,(.bool true))] lz fz∧CallW 6 (fun W=>W=wr.drew) (fun W=>Below W1.heap.size W1 W) lz wz) 80 rfl [55,56,57,58,59,60,61,62,63,64,65,66,67,68,69,70,71,72,73,74,75,76,77,78] (by kernel_rfl) (by kernel_rfl) (by kernel_rfl) (fun f=>⟨Vals.nothing _ f,CallW.nothing (rfl)⟩) ?_ ?_
     · intro i hi
       rcases (by have:i < 24:=hi;omega:i=0∨i=1∨i=2∨i=3∨i=4∨i=5∨i=6∨i=7∨i=8∨i=9∨i=10∨i=11∨i=12∨i=13∨i=14∨i=15∨i=16∨i=17∨i=18∨i=19∨i=20∨i=21∨i=22∨i=23) with rfl | rfl | rfl | rfl | rfl | rfl | rfl | rfl | rfl | rfl | rfl | rfl | rfl | rfl | rfl | rfl | rfl | rfl | rfl | rfl | rfl | rfl | rfl | rfl
       all_goals (clear hi;intro o ho lz fz w' A ⟨hv,hr⟩ hli ha hA K hK;obtain rfl:=Option.some.inj ho;clear ho)
       · have gg4:=so hA 4 _ rfl
         simp only [List.getD_cons_succ,List.getD_cons_zero] at gg4
         rw [if_pos (by rfl)]
         have hF:=hK (.pointer (some ⟨Z,0,none⟩)) w' ⟨hv.step 0 55 _ (by simp),hr.still 0 (by decide)⟩
         clear hv hr ha hK hA hli;go_simp;exact hF
       · have gg1:=so hA 1 _ rfl
         simp only [List.getD_cons_succ,List.getD_cons_zero] at gg1
         rw [if_pos (by rfl)]
         have hF:=hK (.pointer (some ⟨w.heap.size,1,none⟩)) w' ⟨hv.step 1 56 _ (by simp),hr.still 1 (by decide)⟩
         clear hv hr ha hK hA hli;go_simp;exact hF
       · have gg56:=sj hA 56 (hv.at 1 rfl (ha 1 (by decide)))
         rw [if_pos (by rfl)]
         obtain ⟨⟨kx0,kx1,kx2⟩,⟨kg0,kg1,kg2,kg3,kg4,kg5⟩,-,-⟩:=HKP.out w' (hr.imp (fun W e=>by rw [e];exact HB.out.drew) (fun W h=>h))
         have hF:=hK (.slice (some ⟨b,off,none⟩) n2 c2) w' ⟨hv.step 2 57 _ (by simp),hr.still 2 (by decide)⟩
         clear hv hr ha hK hA hli;go_simp;exact hF
       · have gg5:=so hA 5 _ rfl
         simp only [List.getD_cons_succ,List.getD_cons_zero] at gg5
         rw [if_pos (by rfl)]
         have hF:=hK (.int .i64 (k:Int)) w' ⟨hv.step 3 58 _ (by simp),hr.still 3 (by decide)⟩
         clear hv hr ha hK hA hli;go_simp;exact hF
       · have gg57:=sj hA 57 (hv.at 2 rfl (ha 2 (by decide)))
         have gg58:=sj hA 58 (hv.at 3 rfl (ha 3 (by decide)))
         rw [if_pos (by rfl)]
         have hF:=hK (.pointer (some ⟨b,off+k*6,none⟩)) w' ⟨hv.step 4 59 _ (by simp),hr.still 4 (by decide)⟩
         clear hv hr ha hK hA hli;go_simp;exact hF
       · have gg59:=sj hA 59 (hv.at 4 rfl (ha 4 (by decide)))
         rw [if_pos (by rfl)]
         obtain ⟨⟨kx0,kx1,kx2⟩,⟨kg0,kg1,kg2,kg3,kg4,kg5⟩,-,-⟩:=HKP.out w' (hr.imp (fun W e=>by rw [e];exact HB.out.drew) (fun W h=>h))
         have hF:=hK (.agg #[.int .i64 x.bef,.int .i64 x.hgt,.int .i64 x.view,Value.slice a' n' c',.int .i64 x.root,.int .i64 x.effs]) w' ⟨hv.step 5 60 _ (by simp),hr.still 5 (by decide)⟩
         clear hv hr ha hK hA hli;go_simp;exact hF
       · have gg55:=sj hA 55 (hv.at 0 rfl (ha 0 (by decide)))
         have gg60:=sj hA 60 (hv.at 5 rfl (ha 5 (by decide)))
         rw [if_pos (by rfl)]
         clear hA
         go_simp
         have hw0:w'=wr.drew:=hr.1 hli
         subst hw0
         refine HPUT.out.mono ?_
         rintro e9 w9 ⟨rfl,hb7',-,-,-⟩
         have hS9:Below W1.heap.size W1 w9:=HB.out.trans ((Below.refl wr.heap.size wr).drew.mono HB.out.size |>.trans hb7')
         rw [HPB.out]
         exact hK (.bool false) w9 ⟨hv.step 6 61 _ (by simp),CallW.call hS9⟩
       · have gg61:=sj hA 61 (hv.at 6 rfl (ha 6 (by decide)))
         rw [if_pos (by rfl)]
         have hF:=hK (.bool true) w' ⟨hv.step 7 62 _ (by simp),hr.still 7 (by decide)⟩
         clear hv hr ha hK hA hli;go_simp;exact hF
       · have gg62:=sj hA 62 (hv.at 7 rfl (ha 7 (by decide)))
         rw [if_pos (by rfl)]
         have hF:=hK (.bool true) w' ⟨hv.step 8 63 _ (by simp),hr.still 8 (by decide)⟩
         clear hv hr ha hK hA hli;go_simp;exact hF
       iterate 14
        · have g63:=si hA 63 (hv.at 8 rfl (ha 8 (by decide)))
          have gw:=slot_bool g63
          rw [if_neg (by simp [Region.wanted,yielded,gw])]
          exact hK undef w' ⟨hv.step _ _ _ (by simp),hr.still _ (by decide)⟩
       · have gg63:=sj hA 63 (hv.at 8 rfl (ha 8 (by decide)))
         rw [if_pos (by rfl)]
         have hF:=hK (.bool true) w' ⟨hv.step 23 78 _ (by simp),hr.still 23 (by decide)⟩
         clear hv hr ha hK hA hli;go_simp;exact hF
     · intro lz fz w6 hall ⟨hv,hq⟩
       have h78:=hv.at 9 rfl (hall 23 (by decide))
       have hSR:=hq.2 (hall 6 (by decide))
       clear hv hq hall
       simp only [mixF,List.contains_cons,List.contains_nil]
       go_simp
       have HBF:=Lib.hid (HK.out _ hSR).2.2.2.2
       go_wp2_with fail
       go_ret2
       exact ixOf_no HBF.out HR.out
    | true =>
     have HPB:=Lib.hid hpb
     have HNX1:=Lib.hid (HNX.out hpb)
     have HGD:Hid (((t.pre k).add x).bef.getD k 0=fn∧((t.pre k).add x).bef.length=k+1):=Lib.hid (by
      constructor
      · have:=getD_last (t.pre k).bef (findL (t.pre k).blocks x.bef) 0
        rw [HPL.out] at this
        show ((t.pre k).bef++[findL (t.pre k).blocks x.bef]).getD k 0=fn
        rw [this,HFN.out];rfl
      · show ((t.pre k).bef++[findL (t.pre k).blocks x.bef]).length=k+1
        rw [List.length_append,HPL.out];rfl)
     clear hpb
     by_cases h6:fn=f
     case neg =>
      have e6:(fn != f)=true:=by simp [h6]
      have HR:=Lib.hid (HNB.out (fun e=>h6 e))
      have i3:(k:Int) < ((k+1:Nat):Int):=by omega
      have i4:(k:Int) < (k:Int)+1:=by omega
      clear h6
      go_upto_region 9 with (fail)
      refine wp_region_light (by kernel_rfl) (fun lz fz wz=>Vals [(0,55,(.pointer (some ⟨Z,0,none⟩))),(1,56,(.pointer (some ⟨w.heap.size,1,none⟩))),(2,57,(.slice (some ⟨b,off,none⟩) n2 c2)),(3,58,(.int .i64 (k:Int))),(4,59,(.pointer (some ⟨b,off+k*6,none⟩))),(5,60,(.agg #[.int .i64 x.bef,.int .i64 x.hgt,.int .i64 x.view,Value.slice a' n' c',.int .i64 x.root,.int .i64 x.effs])),(6,61,(.bool true))] lz fz∧Late 6 lz∧∃ (b6 off6 c6:Nat),Vals [(7,62,(.bool false)),(8,63,(.bool false)),(9,64,(.pointer (some ⟨Z,0,none⟩))),(10,65,(.pointer (some ⟨Z,0,none⟩))),(11,66,(.pointer (some ⟨Z,0,none⟩))),(12,67,(.pointer (some ⟨Z,2,none⟩))),(13,68,(.slice (some ⟨b6,off6,none⟩) (k+1) c6)),(14,69,(.int .i64 (k:Int))),(15,70,(.pointer (some ⟨b6,off6+k,none⟩))),(16,71,(.int .i64 fn)),(17,72,(.pointer (some ⟨w.heap.size,2,none⟩))),(18,73,(.slice (some ⟨b3,off3,none⟩) n2 c3)),(19,74,(.int .i64 (k:Int))),(20,75,(.pointer (some ⟨b3,off3+k,none⟩))),(21,76,(.int .i64 f)),(22,77,(.bool true)),(23,78,(.bool true))] lz fz∧CallW 6 (fun W=>W=wr.drew) (fun W=>Below W1.heap.size W1 W∧W.cell? ⟨Z,2,none⟩=some (.slice (some ⟨b6,off6,none⟩) (k+1) c6)∧W.cell? ⟨b6,off6+k,none⟩=some (.int .i64 fn)∧∃ v2' ts',TrIx W W1.heap.size Z m tTreP u1 v2' (.slice (some ⟨b6,off6,none⟩) (k+1) c6) ((t.pre k).add x) ts') lz wz) 80 rfl [55,56,57,58,59,60,61,62,63,64,65,66,67,68,69,70,71,72,73,74,75,76,77,78] (by kernel_rfl) (by kernel_rfl) (by kernel_rfl) (fun f=>⟨Vals.nothing _ f,Late.nothing _,default,default,default,Vals.nothing _ f,CallW.nothing (rfl)⟩) ?_ ?_
      · intro i hi
        rcases (by have:i < 24:=hi;omega:i=0∨i=1∨i=2∨i=3∨i=4∨i=5∨i=6∨i=7∨i=8∨i=9∨i=10∨i=11∨i=12∨i=13∨i=14∨i=15∨i=16∨i=17∨i=18∨i=19∨i=20∨i=21∨i=22∨i=23) with rfl | rfl | rfl | rfl | rfl | rfl | rfl | rfl | rfl | rfl | rfl | rfl | rfl | rfl | rfl | rfl | rfl | rfl | rfl | rfl | rfl | rfl | rfl | rfl
        all_goals (clear hi;intro o ho lz fz w' A ⟨hv,hn,b6,off6,c6,hu,hr⟩ hli ha hA K hK;obtain rfl:=Option.some.inj ho;clear ho)
        · have gg4:=so hA 4 _ rfl
          simp only [List.getD_cons_succ,List.getD_cons_zero] at gg4
          rw [if_pos (by rfl)]
          have hF:=hK (.pointer (some ⟨Z,0,none⟩)) w' ⟨hv.step 0 55 _ (by simp),hn.early 0 (by decide),b6,off6,c6,hu.step 0 55 _ (by simp),hr.still 0 (by decide)⟩
          clear hv hu hn hr ha hK hA hli;go_simp;exact hF
        · have gg1:=so hA 1 _ rfl
          simp only [List.getD_cons_succ,List.getD_cons_zero] at gg1
          rw [if_pos (by rfl)]
          have hF:=hK (.pointer (some ⟨w.heap.size,1,none⟩)) w' ⟨hv.step 1 56 _ (by simp),hn.early 1 (by decide),b6,off6,c6,hu.step 1 56 _ (by simp),hr.still 1 (by decide)⟩
          clear hv hu hn hr ha hK hA hli;go_simp;exact hF
        · have gg56:=sj hA 56 (hv.at 1 rfl (ha 1 (by decide)))
          rw [if_pos (by rfl)]
          obtain ⟨⟨kx0,kx1,kx2⟩,⟨kg0,kg1,kg2,kg3,kg4,kg5⟩,kc3,-⟩:=HKP.out w' (hr.imp (fun W e=>by rw [e];exact HB.out.drew) (fun W h=>h.1))
          have hF:=hK (.slice (some ⟨b,off,none⟩) n2 c2) w' ⟨hv.step 2 57 _ (by simp),hn.early 2 (by decide),b6,off6,c6,hu.step 2 57 _ (by simp),hr.still 2 (by decide)⟩
          clear hv hu hn hr ha hK hA hli;go_simp;exact hF
        · have gg5:=so hA 5 _ rfl
          simp only [List.getD_cons_succ,List.getD_cons_zero] at gg5
          rw [if_pos (by rfl)]
          have hF:=hK (.int .i64 (k:Int)) w' ⟨hv.step 3 58 _ (by simp),hn.early 3 (by decide),b6,off6,c6,hu.step 3 58 _ (by simp),hr.still 3 (by decide)⟩
          clear hv hu hn hr ha hK hA hli;go_simp;exact hF
        · have gg57:=sj hA 57 (hv.at 2 rfl (ha 2 (by decide)))
          have gg58:=sj hA 58 (hv.at 3 rfl (ha 3 (by decide)))
          rw [if_pos (by rfl)]
          have hF:=hK (.pointer (some ⟨b,off+k*6,none⟩)) w' ⟨hv.step 4 59 _ (by simp),hn.early 4 (by decide),b6,off6,c6,hu.step 4 59 _ (by simp),hr.still 4 (by decide)⟩
          clear hv hu hn hr ha hK hA hli;go_simp;exact hF
        · have gg59:=sj hA 59 (hv.at 4 rfl (ha 4 (by decide)))
          rw [if_pos (by rfl)]
          obtain ⟨⟨kx0,kx1,kx2⟩,⟨kg0,kg1,kg2,kg3,kg4,kg5⟩,kc3,-⟩:=HKP.out w' (hr.imp (fun W e=>by rw [e];exact HB.out.drew) (fun W h=>h.1))
          have hF:=hK (.agg #[.int .i64 x.bef,.int .i64 x.hgt,.int .i64 x.view,Value.slice a' n' c',.int .i64 x.root,.int .i64 x.effs]) w' ⟨hv.step 5 60 _ (by simp),hn.early 5 (by decide),b6,off6,c6,hu.step 5 60 _ (by simp),hr.still 5 (by decide)⟩
          clear hv hu hn hr ha hK hA hli;go_simp;exact hF
        · have gg55:=sj hA 55 (hv.at 0 rfl (ha 0 (by decide)))
          have gg60:=sj hA 60 (hv.at 5 rfl (ha 5 (by decide)))
          rw [if_pos (by rfl)]
          clear hA
          go_simp
          have hw0:w'=wr.drew:=hr.1 hli
          subst hw0
          refine HPUT.out.mono ?_
          rintro e9 w9 ⟨rfl,hb7',-,-,hyes⟩
          have hb7:Below W1.heap.size W1 w9:=HB.out.trans ((Below.refl wr.heap.size wr).drew.mono HB.out.size |>.trans hb7')
          rw [HPB.out]
          obtain ⟨v2',v3',ts',hix7⟩:=hyes HPB.out
          have hq2:=hix7.box.c2
          obtain ⟨a6,n6,c69,rfl,r6,-,-⟩:=hix7.rd.bef
          obtain rfl:k+1=n6:=HGD.out.2.symm.trans r6.1
          obtain ⟨b69,off69,rfl,hc6⟩:=r6.2.2.1 (by omega)
          have hc6k:=hc6 k (by omega)
          rw [HGD.out.1] at hc6k
          have hS9:Below W1.heap.size W1 w9∧w9.cell? ⟨Z,2,none⟩=some (.slice (some ⟨b69,off69,none⟩) (k+1) c69)∧w9.cell? ⟨b69,off69+k,none⟩=some (.int .i64 fn)∧∃ v2' ts',TrIx w9 W1.heap.size Z m tTreP u1 v2' (.slice (some ⟨b69,off69,none⟩) (k+1) c69) ((t.pre k).add x) ts':=⟨hb7,hq2,hc6k,_,_,hix7⟩
          exact hK (.bool true) w9 ⟨hv.step 6 61 _ (by simp),Late.call _ _,b69,off69,c69,(Vals.late hn hli (by simp)).step 6 61 _ (by simp),CallW.call hS9⟩
        · have gg61:=sj hA 61 (hv.at 6 rfl (ha 6 (by decide)))
          rw [if_pos (by rfl)]
          have hF:=hK (.bool false) w' ⟨hv.step 7 62 _ (by simp),hn.late 7 6 (ha 6 (by decide)) (by decide),b6,off6,c6,hu.step 7 62 _ (by simp),hr.still 7 (by decide)⟩
          clear hv hu hn hr ha hK hA hli;go_simp;exact hF
        · have gg62:=sj hA 62 (hu.at 0 rfl (ha 7 (by decide)))
          rw [if_pos (by rfl)]
          have hF:=hK (.bool false) w' ⟨hv.step 8 63 _ (by simp),hn.late 8 7 (ha 7 (by decide)) (by decide),b6,off6,c6,hu.step 8 63 _ (by simp),hr.still 8 (by decide)⟩
          clear hv hu hn hr ha hK hA hli;go_simp;exact hF
        · have gg4:=so hA 4 _ rfl
          simp only [List.getD_cons_succ,List.getD_cons_zero] at gg4
          have g63:=si hA 63 (hu.at 1 rfl (ha 8 (by decide)))
          have gg63:=slot_get g63
          rw [if_pos (by simp [Region.wanted,yielded,slot_bool g63])]
          have hF:=hK (.pointer (some ⟨Z,0,none⟩)) w' ⟨hv.step 9 64 _ (by simp),hn.late 9 8 (ha 8 (by decide)) (by decide),b6,off6,c6,hu.step 9 64 _ (by simp),hr.still 9 (by decide)⟩
          clear hv hu hn hr ha hK hA hli;go_simp;exact hF
        · have gg64:=sj hA 64 (hu.at 2 rfl (ha 9 (by decide)))
          have g63:=si hA 63 (hu.at 1 rfl (ha 8 (by decide)))
          have gg63:=slot_get g63
          rw [if_pos (by simp [Region.wanted,yielded,slot_bool g63])]
          have hF:=hK (.pointer (some ⟨Z,0,none⟩)) w' ⟨hv.step 10 65 _ (by simp),hn.late 10 9 (ha 9 (by decide)) (by decide),b6,off6,c6,hu.step 10 65 _ (by simp),hr.still 10 (by decide)⟩
          clear hv hu hn hr ha hK hA hli;go_simp;exact hF
        · have gg65:=sj hA 65 (hu.at 3 rfl (ha 10 (by decide)))
          have g63:=si hA 63 (hu.at 1 rfl (ha 8 (by decide)))
          have gg63:=slot_get g63
          rw [if_pos (by simp [Region.wanted,yielded,slot_bool g63])]
          have hF:=hK (.pointer (some ⟨Z,0,none⟩)) w' ⟨hv.step 11 66 _ (by simp),hn.late 11 10 (ha 10 (by decide)) (by decide),b6,off6,c6,hu.step 11 66 _ (by simp),hr.still 11 (by decide)⟩
          clear hv hu hn hr ha hK hA hli;go_simp;exact hF
        · have gg66:=sj hA 66 (hu.at 4 rfl (ha 11 (by decide)))
          have g63:=si hA 63 (hu.at 1 rfl (ha 8 (by decide)))
          have gg63:=slot_get g63
          rw [if_pos (by simp [Region.wanted,yielded,slot_bool g63])]
          have hF:=hK (.pointer (some ⟨Z,2,none⟩)) w' ⟨hv.step 12 67 _ (by simp),hn.late 12 11 (ha 11 (by decide)) (by decide),b6,off6,c6,hu.step 12 67 _ (by simp),hr.still 12 (by decide)⟩
          clear hv hu hn hr ha hK hA hli;go_simp;exact hF
        · have gg67:=sj hA 67 (hu.at 5 rfl (ha 12 (by decide)))
          have g63:=si hA 63 (hu.at 1 rfl (ha 8 (by decide)))
          have gg63:=slot_get g63
          rw [if_pos (by simp [Region.wanted,yielded,slot_bool g63])]
          have h6:lz 6=true:=hn.yes (ha 12 (by decide)) (by decide)
          obtain ⟨-,kz2,kz6,-⟩:=hr.2 h6
          have hF:=hK (.slice (some ⟨b6,off6,none⟩) (k+1) c6) w' ⟨hv.step 13 68 _ (by simp),hn.late 13 12 (ha 12 (by decide)) (by decide),b6,off6,c6,hu.step 13 68 _ (by simp),hr.still 13 (by decide)⟩
          clear hv hu hn hr ha hK hA hli;go_simp;exact hF
        · have gg5:=so hA 5 _ rfl
          simp only [List.getD_cons_succ,List.getD_cons_zero] at gg5
          have g63:=si hA 63 (hu.at 1 rfl (ha 8 (by decide)))
          have gg63:=slot_get g63
          rw [if_pos (by simp [Region.wanted,yielded,slot_bool g63])]
          have hF:=hK (.int .i64 (k:Int)) w' ⟨hv.step 14 69 _ (by simp),hn.late 14 8 (ha 8 (by decide)) (by decide),b6,off6,c6,hu.step 14 69 _ (by simp),hr.still 14 (by decide)⟩
          clear hv hu hn hr ha hK hA hli;go_simp;exact hF
        · have gg68:=sj hA 68 (hu.at 6 rfl (ha 13 (by decide)))
          have gg69:=sj hA 69 (hu.at 7 rfl (ha 14 (by decide)))
          have g63:=si hA 63 (hu.at 1 rfl (ha 8 (by decide)))
          have gg63:=slot_get g63
          rw [if_pos (by simp [Region.wanted,yielded,slot_bool g63])]
          have hF:=hK (.pointer (some ⟨b6,off6+k,none⟩)) w' ⟨hv.step 15 70 _ (by simp),hn.late 15 13 (ha 13 (by decide)) (by decide),b6,off6,c6,hu.step 15 70 _ (by simp),hr.still 15 (by decide)⟩
          clear hv hu hn hr ha hK hA hli;go_simp;exact hF
        · have gg70:=sj hA 70 (hu.at 8 rfl (ha 15 (by decide)))
          have g63:=si hA 63 (hu.at 1 rfl (ha 8 (by decide)))
          have gg63:=slot_get g63
          rw [if_pos (by simp [Region.wanted,yielded,slot_bool g63])]
          have h6:lz 6=true:=hn.yes (ha 15 (by decide)) (by decide)
          obtain ⟨-,kz2,kz6,-⟩:=hr.2 h6
          have hF:=hK (.int .i64 fn) w' ⟨hv.step 16 71 _ (by simp),hn.late 16 15 (ha 15 (by decide)) (by decide),b6,off6,c6,hu.step 16 71 _ (by simp),hr.still 16 (by decide)⟩
          clear hv hu hn hr ha hK hA hli;go_simp;exact hF
        · have gg1:=so hA 1 _ rfl
          simp only [List.getD_cons_succ,List.getD_cons_zero] at gg1
          have g63:=si hA 63 (hu.at 1 rfl (ha 8 (by decide)))
          have gg63:=slot_get g63
          rw [if_pos (by simp [Region.wanted,yielded,slot_bool g63])]
          have hF:=hK (.pointer (some ⟨w.heap.size,2,none⟩)) w' ⟨hv.step 17 72 _ (by simp),hn.late 17 8 (ha 8 (by decide)) (by decide),b6,off6,c6,hu.step 17 72 _ (by simp),hr.still 17 (by decide)⟩
          clear hv hu hn hr ha hK hA hli;go_simp;exact hF
        · have gg72:=sj hA 72 (hu.at 10 rfl (ha 17 (by decide)))
          have g63:=si hA 63 (hu.at 1 rfl (ha 8 (by decide)))
          have gg63:=slot_get g63
          rw [if_pos (by simp [Region.wanted,yielded,slot_bool g63])]
          obtain ⟨⟨kx0,kx1,kx2⟩,⟨kg0,kg1,kg2,kg3,kg4,kg5⟩,kc3,-⟩:=HKP.out w' (hr.imp (fun W e=>by rw [e];exact HB.out.drew) (fun W h=>h.1))
          have hF:=hK (.slice (some ⟨b3,off3,none⟩) n2 c3) w' ⟨hv.step 18 73 _ (by simp),hn.late 18 17 (ha 17 (by decide)) (by decide),b6,off6,c6,hu.step 18 73 _ (by simp),hr.still 18 (by decide)⟩
          clear hv hu hn hr ha hK hA hli;go_simp;exact hF
        · have gg5:=so hA 5 _ rfl
          simp only [List.getD_cons_succ,List.getD_cons_zero] at gg5
          have g63:=si hA 63 (hu.at 1 rfl (ha 8 (by decide)))
          have gg63:=slot_get g63
          rw [if_pos (by simp [Region.wanted,yielded,slot_bool g63])]
          have hF:=hK (.int .i64 (k:Int)) w' ⟨hv.step 19 74 _ (by simp),hn.late 19 8 (ha 8 (by decide)) (by decide),b6,off6,c6,hu.step 19 74 _ (by simp),hr.still 19 (by decide)⟩
          clear hv hu hn hr ha hK hA hli;go_simp;exact hF
        · have gg73:=sj hA 73 (hu.at 11 rfl (ha 18 (by decide)))
          have gg74:=sj hA 74 (hu.at 12 rfl (ha 19 (by decide)))
          have g63:=si hA 63 (hu.at 1 rfl (ha 8 (by decide)))
          have gg63:=slot_get g63
          rw [if_pos (by simp [Region.wanted,yielded,slot_bool g63])]
          have hF:=hK (.pointer (some ⟨b3,off3+k,none⟩)) w' ⟨hv.step 20 75 _ (by simp),hn.late 20 18 (ha 18 (by decide)) (by decide),b6,off6,c6,hu.step 20 75 _ (by simp),hr.still 20 (by decide)⟩
          clear hv hu hn hr ha hK hA hli;go_simp;exact hF
        · have gg75:=sj hA 75 (hu.at 13 rfl (ha 20 (by decide)))
          have g63:=si hA 63 (hu.at 1 rfl (ha 8 (by decide)))
          have gg63:=slot_get g63
          rw [if_pos (by simp [Region.wanted,yielded,slot_bool g63])]
          obtain ⟨⟨kx0,kx1,kx2⟩,⟨kg0,kg1,kg2,kg3,kg4,kg5⟩,kc3,-⟩:=HKP.out w' (hr.imp (fun W e=>by rw [e];exact HB.out.drew) (fun W h=>h.1))
          have hF:=hK (.int .i64 f) w' ⟨hv.step 21 76 _ (by simp),hn.late 21 20 (ha 20 (by decide)) (by decide),b6,off6,c6,hu.step 21 76 _ (by simp),hr.still 21 (by decide)⟩
          clear hv hu hn hr ha hK hA hli;go_simp;exact hF
        · have gg71:=sj hA 71 (hu.at 9 rfl (ha 16 (by decide)))
          have gg76:=sj hA 76 (hu.at 14 rfl (ha 21 (by decide)))
          have g63:=si hA 63 (hu.at 1 rfl (ha 8 (by decide)))
          have gg63:=slot_get g63
          rw [if_pos (by simp [Region.wanted,yielded,slot_bool g63])]
          have hF:=hK (.bool true) w' ⟨hv.step 22 77 _ (by simp),hn.late 22 16 (ha 16 (by decide)) (by decide),b6,off6,c6,hu.step 22 77 _ (by simp),hr.still 22 (by decide)⟩
          clear hv hu hn hr ha hK hA hli;go_simp;exact hF
        · have gg63:=sj hA 63 (hu.at 1 rfl (ha 8 (by decide)))
          have gg77:=sj hA 77 (hu.at 15 rfl (ha 22 (by decide)))
          rw [if_pos (by rfl)]
          have hF:=hK (.bool true) w' ⟨hv.step 23 78 _ (by simp),hn.late 23 8 (ha 8 (by decide)) (by decide),b6,off6,c6,hu.step 23 78 _ (by simp),hr.still 23 (by decide)⟩
          clear hv hu hn hr ha hK hA hli;go_simp;exact hF
      · intro lz fz w6 hall ⟨hv,hn,b6,off6,c6,hu,hq⟩
        have h78:=hu.at 16 rfl (hall 23 (by decide))
        have hSR:=hq.2 (hall 6 (by decide))
        clear hv hu hn hq hall
        simp only [mixF,List.contains_cons,List.contains_nil]
        go_simp
        have HBF:=Lib.hid (HK.out _ hSR.1).2.2.2.2
        go_wp2_with fail
        go_ret2
        exact ixOf_no HBF.out HR.out
     have e6:(fn != f)=false:=by simp [h6]
     have HN2:=Lib.hid (HNX1.out h6)
     have i3:(k:Int) < ((k+1:Nat):Int):=by omega
     have i4:(k:Int) < (k:Int)+1:=by omega
     clear h6
     go_upto_region 9 with (fail)
     refine wp_region_light (by kernel_rfl) (fun lz fz wz=>Vals [(0,55,(.pointer (some ⟨Z,0,none⟩))),(1,56,(.pointer (some ⟨w.heap.size,1,none⟩))),(2,57,(.slice (some ⟨b,off,none⟩) n2 c2)),(3,58,(.int .i64 (k:Int))),(4,59,(.pointer (some ⟨b,off+k*6,none⟩))),(5,60,(.agg #[.int .i64 x.bef,.int .i64 x.hgt,.int .i64 x.view,Value.slice a' n' c',.int .i64 x.root,.int .i64 x.effs])),(6,61,(.bool true))] lz fz∧Late 6 lz∧∃ (b6 off6 c6:Nat),Vals [(7,62,(.bool false)),(8,63,(.bool false)),(9,64,(.pointer (some ⟨Z,0,none⟩))),(10,65,(.pointer (some ⟨Z,0,none⟩))),(11,66,(.pointer (some ⟨Z,0,none⟩))),(12,67,(.pointer (some ⟨Z,2,none⟩))),(13,68,(.slice (some ⟨b6,off6,none⟩) (k+1) c6)),(14,69,(.int .i64 (k:Int))),(15,70,(.pointer (some ⟨b6,off6+k,none⟩))),(16,71,(.int .i64 fn)),(17,72,(.pointer (some ⟨w.heap.size,2,none⟩))),(18,73,(.slice (some ⟨b3,off3,none⟩) n2 c3)),(19,74,(.int .i64 (k:Int))),(20,75,(.pointer (some ⟨b3,off3+k,none⟩))),(21,76,(.int .i64 f)),(22,77,(.bool false)),(23,78,(.bool false))] lz fz∧CallW 6 (fun W=>W=wr.drew) (fun W=>Below W1.heap.size W1 W∧W.cell? ⟨Z,2,none⟩=some (.slice (some ⟨b6,off6,none⟩) (k+1) c6)∧W.cell? ⟨b6,off6+k,none⟩=some (.int .i64 fn)∧∃ v2' ts',TrIx W W1.heap.size Z m tTreP u1 v2' (.slice (some ⟨b6,off6,none⟩) (k+1) c6) ((t.pre k).add x) ts') lz wz) 80 rfl [55,56,57,58,59,60,61,62,63,64,65,66,67,68,69,70,71,72,73,74,75,76,77,78] (by kernel_rfl) (by kernel_rfl) (by kernel_rfl) (fun f=>⟨Vals.nothing _ f,Late.nothing _,default,default,default,Vals.nothing _ f,CallW.nothing (rfl)⟩) ?_ ?_
     · intro i hi
       rcases (by have:i < 24:=hi;omega:i=0∨i=1∨i=2∨i=3∨i=4∨i=5∨i=6∨i=7∨i=8∨i=9∨i=10∨i=11∨i=12∨i=13∨i=14∨i=15∨i=16∨i=17∨i=18∨i=19∨i=20∨i=21∨i=22∨i=23) with rfl | rfl | rfl | rfl | rfl | rfl | rfl | rfl | rfl | rfl | rfl | rfl | rfl | rfl | rfl | rfl | rfl | rfl | rfl | rfl | rfl | rfl | rfl | rfl
       all_goals (clear hi;intro o ho lz fz w' A ⟨hv,hn,b6,off6,c6,hu,hr⟩ hli ha hA K hK;obtain rfl:=Option.some.inj ho;clear ho)
       · have gg4:=so hA 4 _ rfl
         simp only [List.getD_cons_succ,List.getD_cons_zero] at gg4
         rw [if_pos (by rfl)]
         have hF:=hK (.pointer (some ⟨Z,0,none⟩)) w' ⟨hv.step 0 55 _ (by simp),hn.early 0 (by decide),b6,off6,c6,hu.step 0 55 _ (by simp),hr.still 0 (by decide)⟩
         clear hv hu hn hr ha hK hA hli;go_simp;exact hF
       · have gg1:=so hA 1 _ rfl
         simp only [List.getD_cons_succ,List.getD_cons_zero] at gg1
         rw [if_pos (by rfl)]
         have hF:=hK (.pointer (some ⟨w.heap.size,1,none⟩)) w' ⟨hv.step 1 56 _ (by simp),hn.early 1 (by decide),b6,off6,c6,hu.step 1 56 _ (by simp),hr.still 1 (by decide)⟩
         clear hv hu hn hr ha hK hA hli;go_simp;exact hF
       · have gg56:=sj hA 56 (hv.at 1 rfl (ha 1 (by decide)))
         rw [if_pos (by rfl)]
         obtain ⟨⟨kx0,kx1,kx2⟩,⟨kg0,kg1,kg2,kg3,kg4,kg5⟩,kc3,-⟩:=HKP.out w' (hr.imp (fun W e=>by rw [e];exact HB.out.drew) (fun W h=>h.1))
         have hF:=hK (.slice (some ⟨b,off,none⟩) n2 c2) w' ⟨hv.step 2 57 _ (by simp),hn.early 2 (by decide),b6,off6,c6,hu.step 2 57 _ (by simp),hr.still 2 (by decide)⟩
         clear hv hu hn hr ha hK hA hli;go_simp;exact hF
       · have gg5:=so hA 5 _ rfl
         simp only [List.getD_cons_succ,List.getD_cons_zero] at gg5
         rw [if_pos (by rfl)]
         have hF:=hK (.int .i64 (k:Int)) w' ⟨hv.step 3 58 _ (by simp),hn.early 3 (by decide),b6,off6,c6,hu.step 3 58 _ (by simp),hr.still 3 (by decide)⟩
         clear hv hu hn hr ha hK hA hli;go_simp;exact hF
       · have gg57:=sj hA 57 (hv.at 2 rfl (ha 2 (by decide)))
         have gg58:=sj hA 58 (hv.at 3 rfl (ha 3 (by decide)))
         rw [if_pos (by rfl)]
         have hF:=hK (.pointer (some ⟨b,off+k*6,none⟩)) w' ⟨hv.step 4 59 _ (by simp),hn.early 4 (by decide),b6,off6,c6,hu.step 4 59 _ (by simp),hr.still 4 (by decide)⟩
         clear hv hu hn hr ha hK hA hli;go_simp;exact hF
       · have gg59:=sj hA 59 (hv.at 4 rfl (ha 4 (by decide)))
         rw [if_pos (by rfl)]
         obtain ⟨⟨kx0,kx1,kx2⟩,⟨kg0,kg1,kg2,kg3,kg4,kg5⟩,kc3,-⟩:=HKP.out w' (hr.imp (fun W e=>by rw [e];exact HB.out.drew) (fun W h=>h.1))
         have hF:=hK (.agg #[.int .i64 x.bef,.int .i64 x.hgt,.int .i64 x.view,Value.slice a' n' c',.int .i64 x.root,.int .i64 x.effs]) w' ⟨hv.step 5 60 _ (by simp),hn.early 5 (by decide),b6,off6,c6,hu.step 5 60 _ (by simp),hr.still 5 (by decide)⟩
         clear hv hu hn hr ha hK hA hli;go_simp;exact hF
       · have gg55:=sj hA 55 (hv.at 0 rfl (ha 0 (by decide)))
         have gg60:=sj hA 60 (hv.at 5 rfl (ha 5 (by decide)))
         rw [if_pos (by rfl)]
         clear hA
         go_simp
         have hw0:w'=wr.drew:=hr.1 hli
         subst hw0
         refine HPUT.out.mono ?_
         rintro e9 w9 ⟨rfl,hb7',-,-,hyes⟩
         have hb7:Below W1.heap.size W1 w9:=HB.out.trans ((Below.refl wr.heap.size wr).drew.mono HB.out.size |>.trans hb7')
         rw [HPB.out]
         obtain ⟨v2',v3',ts',hix7⟩:=hyes HPB.out
         have hq2:=hix7.box.c2
         obtain ⟨a6,n6,c69,rfl,r6,-,-⟩:=hix7.rd.bef
         obtain rfl:k+1=n6:=HGD.out.2.symm.trans r6.1
         obtain ⟨b69,off69,rfl,hc6⟩:=r6.2.2.1 (by omega)
         have hc6k:=hc6 k (by omega)
         rw [HGD.out.1] at hc6k
         have hS9:Below W1.heap.size W1 w9∧w9.cell? ⟨Z,2,none⟩=some (.slice (some ⟨b69,off69,none⟩) (k+1) c69)∧w9.cell? ⟨b69,off69+k,none⟩=some (.int .i64 fn)∧∃ v2' ts',TrIx w9 W1.heap.size Z m tTreP u1 v2' (.slice (some ⟨b69,off69,none⟩) (k+1) c69) ((t.pre k).add x) ts':=⟨hb7,hq2,hc6k,_,_,hix7⟩
         exact hK (.bool true) w9 ⟨hv.step 6 61 _ (by simp),Late.call _ _,b69,off69,c69,(Vals.late hn hli (by simp)).step 6 61 _ (by simp),CallW.call hS9⟩
       · have gg61:=sj hA 61 (hv.at 6 rfl (ha 6 (by decide)))
         rw [if_pos (by rfl)]
         have hF:=hK (.bool false) w' ⟨hv.step 7 62 _ (by simp),hn.late 7 6 (ha 6 (by decide)) (by decide),b6,off6,c6,hu.step 7 62 _ (by simp),hr.still 7 (by decide)⟩
         clear hv hu hn hr ha hK hA hli;go_simp;exact hF
       · have gg62:=sj hA 62 (hu.at 0 rfl (ha 7 (by decide)))
         rw [if_pos (by rfl)]
         have hF:=hK (.bool false) w' ⟨hv.step 8 63 _ (by simp),hn.late 8 7 (ha 7 (by decide)) (by decide),b6,off6,c6,hu.step 8 63 _ (by simp),hr.still 8 (by decide)⟩
         clear hv hu hn hr ha hK hA hli;go_simp;exact hF
       · have gg4:=so hA 4 _ rfl
         simp only [List.getD_cons_succ,List.getD_cons_zero] at gg4
         have g63:=si hA 63 (hu.at 1 rfl (ha 8 (by decide)))
         have gg63:=slot_get g63
         rw [if_pos (by simp [Region.wanted,yielded,slot_bool g63])]
         have hF:=hK (.pointer (some ⟨Z,0,none⟩)) w' ⟨hv.step 9 64 _ (by simp),hn.late 9 8 (ha 8 (by decide)) (by decide),b6,off6,c6,hu.step 9 64 _ (by simp),hr.still 9 (by decide)⟩
         clear hv hu hn hr ha hK hA hli;go_simp;exact hF
       · have gg64:=sj hA 64 (hu.at 2 rfl (ha 9 (by decide)))
         have g63:=si hA 63 (hu.at 1 rfl (ha 8 (by decide)))
         have gg63:=slot_get g63
         rw [if_pos (by simp [Region.wanted,yielded,slot_bool g63])]
         have hF:=hK (.pointer (some ⟨Z,0,none⟩)) w' ⟨hv.step 10 65 _ (by simp),hn.late 10 9 (ha 9 (by decide)) (by decide),b6,off6,c6,hu.step 10 65 _ (by simp),hr.still 10 (by decide)⟩
         clear hv hu hn hr ha hK hA hli;go_simp;exact hF
       · have gg65:=sj hA 65 (hu.at 3 rfl (ha 10 (by decide)))
         have g63:=si hA 63 (hu.at 1 rfl (ha 8 (by decide)))
         have gg63:=slot_get g63
         rw [if_pos (by simp [Region.wanted,yielded,slot_bool g63])]
         have hF:=hK (.pointer (some ⟨Z,0,none⟩)) w' ⟨hv.step 11 66 _ (by simp),hn.late 11 10 (ha 10 (by decide)) (by decide),b6,off6,c6,hu.step 11 66 _ (by simp),hr.still 11 (by decide)⟩
         clear hv hu hn hr ha hK hA hli;go_simp;exact hF
       · have gg66:=sj hA 66 (hu.at 4 rfl (ha 11 (by decide)))
         have g63:=si hA 63 (hu.at 1 rfl (ha 8 (by decide)))
         have gg63:=slot_get g63
         rw [if_pos (by simp [Region.wanted,yielded,slot_bool g63])]
         have hF:=hK (.pointer (some ⟨Z,2,none⟩)) w' ⟨hv.step 12 67 _ (by simp),hn.late 12 11 (ha 11 (by decide)) (by decide),b6,off6,c6,hu.step 12 67 _ (by simp),hr.still 12 (by decide)⟩
         clear hv hu hn hr ha hK hA hli;go_simp;exact hF
       · have gg67:=sj hA 67 (hu.at 5 rfl (ha 12 (by decide)))
         have g63:=si hA 63 (hu.at 1 rfl (ha 8 (by decide)))
         have gg63:=slot_get g63
         rw [if_pos (by simp [Region.wanted,yielded,slot_bool g63])]
         have h6:lz 6=true:=hn.yes (ha 12 (by decide)) (by decide)
         obtain ⟨-,kz2,kz6,-⟩:=hr.2 h6
         have hF:=hK (.slice (some ⟨b6,off6,none⟩) (k+1) c6) w' ⟨hv.step 13 68 _ (by simp),hn.late 13 12 (ha 12 (by decide)) (by decide),b6,off6,c6,hu.step 13 68 _ (by simp),hr.still 13 (by decide)⟩
         clear hv hu hn hr ha hK hA hli;go_simp;exact hF
       · have gg5:=so hA 5 _ rfl
         simp only [List.getD_cons_succ,List.getD_cons_zero] at gg5
         have g63:=si hA 63 (hu.at 1 rfl (ha 8 (by decide)))
         have gg63:=slot_get g63
         rw [if_pos (by simp [Region.wanted,yielded,slot_bool g63])]
         have hF:=hK (.int .i64 (k:Int)) w' ⟨hv.step 14 69 _ (by simp),hn.late 14 8 (ha 8 (by decide)) (by decide),b6,off6,c6,hu.step 14 69 _ (by simp),hr.still 14 (by decide)⟩
         clear hv hu hn hr ha hK hA hli;go_simp;exact hF
       · have gg68:=sj hA 68 (hu.at 6 rfl (ha 13 (by decide)))
         have gg69:=sj hA 69 (hu.at 7 rfl (ha 14 (by decide)))
         have g63:=si hA 63 (hu.at 1 rfl (ha 8 (by decide)))
         have gg63:=slot_get g63
         rw [if_pos (by simp [Region.wanted,yielded,slot_bool g63])]
         have hF:=hK (.pointer (some ⟨b6,off6+k,none⟩)) w' ⟨hv.step 15 70 _ (by simp),hn.late 15 13 (ha 13 (by decide)) (by decide),b6,off6,c6,hu.step 15 70 _ (by simp),hr.still 15 (by decide)⟩
         clear hv hu hn hr ha hK hA hli;go_simp;exact hF
       · have gg70:=sj hA 70 (hu.at 8 rfl (ha 15 (by decide)))
         have g63:=si hA 63 (hu.at 1 rfl (ha 8 (by decide)))
         have gg63:=slot_get g63
         rw [if_pos (by simp [Region.wanted,yielded,slot_bool g63])]
         have h6:lz 6=true:=hn.yes (ha 15 (by decide)) (by decide)
         obtain ⟨-,kz2,kz6,-⟩:=hr.2 h6
         have hF:=hK (.int .i64 fn) w' ⟨hv.step 16 71 _ (by simp),hn.late 16 15 (ha 15 (by decide)) (by decide),b6,off6,c6,hu.step 16 71 _ (by simp),hr.still 16 (by decide)⟩
         clear hv hu hn hr ha hK hA hli;go_simp;exact hF
       · have gg1:=so hA 1 _ rfl
         simp only [List.getD_cons_succ,List.getD_cons_zero] at gg1
         have g63:=si hA 63 (hu.at 1 rfl (ha 8 (by decide)))
         have gg63:=slot_get g63
         rw [if_pos (by simp [Region.wanted,yielded,slot_bool g63])]
         have hF:=hK (.pointer (some ⟨w.heap.size,2,none⟩)) w' ⟨hv.step 17 72 _ (by simp),hn.late 17 8 (ha 8 (by decide)) (by decide),b6,off6,c6,hu.step 17 72 _ (by simp),hr.still 17 (by decide)⟩
         clear hv hu hn hr ha hK hA hli;go_simp;exact hF
       · have gg72:=sj hA 72 (hu.at 10 rfl (ha 17 (by decide)))
         have g63:=si hA 63 (hu.at 1 rfl (ha 8 (by decide)))
         have gg63:=slot_get g63
         rw [if_pos (by simp [Region.wanted,yielded,slot_bool g63])]
         obtain ⟨⟨kx0,kx1,kx2⟩,⟨kg0,kg1,kg2,kg3,kg4,kg5⟩,kc3,-⟩:=HKP.out w' (hr.imp (fun W e=>by rw [e];exact HB.out.drew) (fun W h=>h.1))
         have hF:=hK (.slice (some ⟨b3,off3,none⟩) n2 c3) w' ⟨hv.step 18 73 _ (by simp),hn.late 18 17 (ha 17 (by decide)) (by decide),b6,off6,c6,hu.step 18 73 _ (by simp),hr.still 18 (by decide)⟩
         clear hv hu hn hr ha hK hA hli;go_simp;exact hF
       · have gg5:=so hA 5 _ rfl
         simp only [List.getD_cons_succ,List.getD_cons_zero] at gg5
         have g63:=si hA 63 (hu.at 1 rfl (ha 8 (by decide)))
         have gg63:=slot_get g63
         rw [if_pos (by simp [Region.wanted,yielded,slot_bool g63])]
         have hF:=hK (.int .i64 (k:Int)) w' ⟨hv.step 19 74 _ (by simp),hn.late 19 8 (ha 8 (by decide)) (by decide),b6,off6,c6,hu.step 19 74 _ (by simp),hr.still 19 (by decide)⟩
         clear hv hu hn hr ha hK hA hli;go_simp;exact hF
       · have gg73:=sj hA 73 (hu.at 11 rfl (ha 18 (by decide)))
         have gg74:=sj hA 74 (hu.at 12 rfl (ha 19 (by decide)))
         have g63:=si hA 63 (hu.at 1 rfl (ha 8 (by decide)))
         have gg63:=slot_get g63
         rw [if_pos (by simp [Region.wanted,yielded,slot_bool g63])]
         have hF:=hK (.pointer (some ⟨b3,off3+k,none⟩)) w' ⟨hv.step 20 75 _ (by simp),hn.late 20 18 (ha 18 (by decide)) (by decide),b6,off6,c6,hu.step 20 75 _ (by simp),hr.still 20 (by decide)⟩
         clear hv hu hn hr ha hK hA hli;go_simp;exact hF
       · have gg75:=sj hA 75 (hu.at 13 rfl (ha 20 (by decide)))
         have g63:=si hA 63 (hu.at 1 rfl (ha 8 (by decide)))
         have gg63:=slot_get g63
         rw [if_pos (by simp [Region.wanted,yielded,slot_bool g63])]
         obtain ⟨⟨kx0,kx1,kx2⟩,⟨kg0,kg1,kg2,kg3,kg4,kg5⟩,kc3,-⟩:=HKP.out w' (hr.imp (fun W e=>by rw [e];exact HB.out.drew) (fun W h=>h.1))
         have hF:=hK (.int .i64 f) w' ⟨hv.step 21 76 _ (by simp),hn.late 21 20 (ha 20 (by decide)) (by decide),b6,off6,c6,hu.step 21 76 _ (by simp),hr.still 21 (by decide)⟩
         clear hv hu hn hr ha hK hA hli;go_simp;exact hF
       · have gg71:=sj hA 71 (hu.at 9 rfl (ha 16 (by decide)))
         have gg76:=sj hA 76 (hu.at 14 rfl (ha 21 (by decide)))
         have g63:=si hA 63 (hu.at 1 rfl (ha 8 (by decide)))
         have gg63:=slot_get g63
         rw [if_pos (by simp [Region.wanted,yielded,slot_bool g63])]
         have hF:=hK (.bool false) w' ⟨hv.step 22 77 _ (by simp),hn.late 22 16 (ha 16 (by decide)) (by decide),b6,off6,c6,hu.step 22 77 _ (by simp),hr.still 22 (by decide)⟩
         clear hv hu hn hr ha hK hA hli;go_simp;exact hF
       · have gg63:=sj hA 63 (hu.at 1 rfl (ha 8 (by decide)))
         have gg77:=sj hA 77 (hu.at 15 rfl (ha 22 (by decide)))
         rw [if_pos (by rfl)]
         have hF:=hK (.bool false) w' ⟨hv.step 23 78 _ (by simp),hn.late 23 8 (ha 8 (by decide)) (by decide),b6,off6,c6,hu.step 23 78 _ (by simp),hr.still 23 (by decide)⟩
         clear hv hu hn hr ha hK hA hli;go_simp;exact hF
     · intro lz fz w6 hall ⟨hv,hn,b6,off6,c6,hu,hq⟩
       have h78:=hu.at 16 rfl (hall 23 (by decide))
       have hSR:=hq.2 (hall 6 (by decide))
       clear hv hu hn hq hall
       simp only [mixF,List.contains_cons,List.contains_nil]
       go_simp
       obtain ⟨hb7,-,-,v2',ts',hix7⟩:=hSR
       have HB7:=Lib.hid hb7
       have HI7:=Lib.hid hix7
       clear hb7 hix7
       go_wp2_with fail
       go_roundw
       case rel=>exact ⟨k+1,by omega,by omega,by go_num,HN2.out.1,⟨_,_,_,_,by rw [← HN2.out.2];exact HI7.out⟩,HB7.out⟩
       case measure=>simp [intOf];omega
  · obtain rfl:k=n2:=by omega
    have HTF:Hid (treB t=true):=Lib.hid (by have:=HTB.out;rw [← HL2.out,pre_all (by rw [HL3.out,HL2.out])] at this;exact this)
    have HIF:Hid (TrIx wr W1.heap.size Z m tTreP u1 u2 u3 t ts):=Lib.hid (by have:=HIX.out;rw [← HL2.out,pre_all (by rw [HL3.out,HL2.out])] at this;exact this)
    obtain ⟨⟨x0,x1,x2,-⟩,-,-,-,hbf⟩:=HK.out wr HB.out
    have HBF:=Lib.hid hbf
    clear hbf
    go_wp2_with fail
    go_ret2
    exact ⟨HBF.out,fun e=>(by rw [HTF.out] at e;cases e),fun _=>⟨_,_,_,_,_,_,rfl,HIF.out.mono (Nat.le_of_lt HZW.out)⟩⟩
end Go.Proofs.YtpnjgmgmakmgeaaGreat

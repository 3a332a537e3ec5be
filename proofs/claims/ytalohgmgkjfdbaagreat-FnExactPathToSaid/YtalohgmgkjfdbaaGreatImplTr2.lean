/- The contract of the program's indexedTree.put (gen16/put.py). -/
import Derived.Test.YtalohgmgkjfdbaaGreatTrP
import Derived.Test.YtalohgmgkjfdbaaGreatTrI
import Derived.Test.YtalohgmgkjfdbaaGreatBkI
import Derived.Test.YtalohgmgkjfdbaaGreatRegO
import Derived.Deep.RegionHeld3
import Derived.Deep.RegionLaw
import Derived.Deep.Cut
namespace Go.Proofs.YtalohgmgkjfdbaaGreat
open Go.RowKit Go.Maps
set_option linter.unusedVariables false
set_option linter.unusedSimpArgs false
theorem infoBlkP:(Tryz.prog.info? 52).map (fun i=>(i.zero,i.size,i.bytes))=some (some (.agg #[.int .i64 0,.int .i64 0,.int .i64 0,.slice none 0 0,.int .i64 0,.int .i64 0]),6,64):=by kernel_rfl
theorem infoIntP:(Tryz.prog.info? 3).map (fun i=>(i.zero,i.size,i.bytes))=some (some (.int .i64 0),1,8):=by kernel_rfl
def tTreP:TreT:=⟨81,52,112,3⟩
theorem MapF.updRun {w:World} {b k:Nat} {f:Int→Option Int} (hf:MapF w b k f) (hk:k < 1000) (key val:Int) (hkey:(Lit.int .i64 key).wf=true) (hval:(Lit.int .i64 val).wf=true) :
  ∃ w',(Instr.mapUpdate 84 (.map (some b)) (.int .i64 key) (.int .i64 val)).run Tryz.prog w = .ok () w'∧MapF w' b (k+1) (updF f key val)∧w.grownBy w' (some b):=by
 obtain ⟨D,hown,hD⟩:=hf
 obtain ⟨w',h1,h2,h3⟩:=hown.update lawInt Tryz.underlying84 (by unfold maxLen;omega) (keyOf_int_mk Tryz.underlying3 hkey) (plainElem_int Tryz.underlying3 hval)
 exact ⟨w',h1,⟨_,h2,put_has hown.isMap hD key val⟩,h3⟩
theorem blockSum_implV (x:Blk) (a:Option Addr) (n c:Nat) (w:World) (h:RowA w a n x.acts) :
  Calls Tryz.prog 55 #[.agg #[.int .i64 x.bef,.int .i64 x.hgt,.int .i64 x.view,.slice a n c,.int .i64 x.root,.int .i64 x.effs]] w (IntB (blkSumM x) w):=blockSum_impl x.bef x.hgt x.view x.root x.effs a n c x.acts w h
theorem blockValid_implV (x:Blk) (a:Option Addr) (n c:Nat) (w:World) (h:RowA w a n x.acts) :
  Calls Tryz.prog 94 #[.agg #[.int .i64 x.bef,.int .i64 x.hgt,.int .i64 x.view,.slice a n c,.int .i64 x.root,.int .i64 x.effs]] w (BoolB (blkB x) w):=blockValid_impl x.bef x.hgt x.view x.root x.effs a n c x.acts w h
theorem putB_no {t:Tre} {b:Blk} (h:¬ PutOk t b):putB t b=false:=by rw [Bool.eq_false_iff];intro e;exact h ((putB_iff t b).1 e)
theorem putW_no {w w':World} {B Z m:Nat} {tT:TreT} {v1 v2 v3:Value} {t:Tre} {ts:List Value} {b:Blk} (h:TrIx w B Z m tT v1 v2 v3 t ts) (hb:Below w.heap.size w w') (hB:B≤w.heap.size) (hp:putB t b=false):PutW w B Z m tT v1 v2 v3 t ts b (.returned (.bool false)) w' :=
 ⟨by rw [hp],hb.mono hB,hb.size,fun _=>h.below hb,fun e=>by rw [hp] at e;cases e⟩
theorem RowA.stay {w w':World} {a:Option Addr} {n:Nat} {row:Option Nat} {l:List Acn} (h:RowA w a n l) (hg:w.grownBy w' row) (hne:0 < n→∀ p o,a=some ⟨p,o,none⟩→some p≠row):RowA w' a n l:=by
 obtain ⟨h1,h2,h3,h4⟩:=h
 refine ⟨h1,h2,fun hl=>?_,h4⟩
 obtain ⟨b',off,he,hc⟩:=h3 hl
 have hn:=hne hl b' off he
 refine ⟨b',off,he,fun i hi=>?_⟩
 obtain ⟨c1,c2,c3,c4⟩:=hc i hi
 exact ⟨World.grownBy.cell hg c1 hn,World.grownBy.cell hg c2 hn,World.grownBy.cell hg c3 hn,World.grownBy.cell hg c4 hn⟩
set_option maxRecDepth 100000 in
set_option maxHeartbeats 8000000 in
theorem put_impl (B Z m:Nat) (v1 v2 v3:Value) (t:Tre) (ts:List Value) (b:Blk) (a:Option Addr) (n c:Nat) (w:World) (h:TrIx w B Z m tTreP v1 v2 v3 t ts) (ht:treB t=true) (hr:RowA w a n b.acts) (hz:a=none→c=0) (hwf:WfB b) (hne:0 < n→∀ p o,a=some ⟨p,o,none⟩→p≠m) :
  Calls Tryz.prog 80 #[.pointer (some ⟨Z,0,none⟩),.agg #[.int .i64 b.bef,.int .i64 b.hgt,.int .i64 b.view,.slice a n c,.int .i64 b.root,.int .i64 b.effs]] w (PutW w B Z m tTreP v1 v2 v3 t ts b):=by
 have hBw:B≤w.heap.size:=Nat.le_trans h.zB (Nat.le_of_lt h.box.lt)
 obtain ⟨a2,n2,c2,rfl,hr2,-,-⟩:=h.rd.blocks
 have hl2:t.blocks.length=n2:=hr2.1
 have htk:=(treB_iff t).1 ht
 have hm14:=htk.most
 have hone:=htk.one
 have hn1:1≤n2:=by omega
 have hn14:n2≤14:=by omega
 have HTK:=Lib.hid htk
 have HLB:=Lib.hid htk.len
 have hb0:=(Below.refl w.heap.size w).alloc (Nat.le_refl _) (.cells #[.int .i64 b.bef,.int .i64 b.hgt,.int .i64 b.view,.slice a n c,.int .i64 b.root,.int .i64 b.effs] 52)
 have hA:=bkAt_new w 52 (.int .i64 b.bef) (.int .i64 b.hgt) (.int .i64 b.view) (.slice a n c) (.int .i64 b.root) (.int .i64 b.effs)
 obtain ⟨W1,hW1⟩:∃ W1,W1=w.alloc (.cells #[.int .i64 b.bef,.int .i64 b.hgt,.int .i64 b.view,.slice a n c,.int .i64 b.root,.int .i64 b.effs] 52):=⟨_,rfl⟩
 have HW1:=Lib.hid hW1
 rw [← hW1] at hb0 hA
 clear hW1
 have HK:=Lib.hid (fun (W:World) (hb:Below W1.heap.size W1 W)=>(⟨hA.below hb,(h.below hb0).below hb |>.box,(h.below hb0).below hb |>.map,(hr.below hb0).below hb,(hr2.below hb0).below hb,hb0.trans (hb.mono hb0.size)⟩:BkAt W w.heap.size (.int .i64 b.bef) (.int .i64 b.hgt) (.int .i64 b.view) (.slice a n c) (.int .i64 b.root) (.int .i64 b.effs)∧IxAt W Z v1 (.slice a2 n2 c2) v3 (.map (some m))∧MapF W m t.blocks.length (idxF t.blocks)∧RowA W a n b.acts∧RowBs W a2 n2 t.blocks∧Below w.heap.size w W))
 have HIX:=Lib.hid h
 have HBW:=Lib.hid hBw
 have HL2:=Lib.hid hl2
 have HWF:=Lib.hid hwf
 have HNE:=Lib.hid hne
 clear hne h hr hr2 hb0 hA hBw htk hm14 hone hwf hl2
 by_cases h1:n2=14
 case pos =>
  have e1:((n2:Int) == 14)=true:=by simp;omega
  have HNP:=Lib.hid (putB_no (t:=t) (b:=b) (fun hp=>hp.len (by rw [HL2.out];exact h1)))
  clear h1
  go_enter Tryz.func80,Tryz.ntmps80
  go_upto_region 1 with (fail)
  rw [← HW1.out]
  clear HW1
  obtain ⟨⟨x0,x1,x2,x3,x4,x5,-⟩,⟨y0,y1,y2,y3,-⟩,-,-,-,-⟩:=HK.out W1 (Below.refl _ _)
  have HBF:=Lib.hid (HK.out _ (Below.refl _ _)).2.2.2.2.2
  go_wp2_with fail
  go_ret
  exact putW_no HIX.out HBF.out HBW.out HNP.out
 have e1:((n2:Int) == 14)=false:=by simp;omega
 have H1:=Lib.hid h1
 clear h1
 go_enter Tryz.func80,Tryz.ntmps80
 go_upto_region 1 with (fail)
 rw [← HW1.out]
 clear HW1
 obtain ⟨⟨x0,x1,x2,x3,x4,x5,-⟩,⟨y0,y1,y2,y3,-⟩,-,-,-,-⟩:=HK.out W1 (Below.refl _ _)
 go_wp2_with fail
 refine (blockValid_implV b a n c _ (HK.out W1 (Below.refl _ _)).2.2.2.1).mono ?_;rintro e w2 ⟨rfl,hb2⟩
 have HB2:=Lib.hid hb2
 clear x0 x1 x2 x3 x4 x5 y0 y1 y2 y3 e1 hb2
 cases e2:blkB b with
 | false =>
  have HNP:=Lib.hid (putB_no (t:=t) (b:=b) (fun hp=>by have:=hp.ok;rw [e2] at this;cases this))
  have HBF:=Lib.hid (HK.out _ HB2.out).2.2.2.2.2
  go_wp2_with fail
  go_ret
  exact putW_no HIX.out HBF.out HBW.out HNP.out
 | true =>
 have hn10:n≤10:=by have:=(actsB_true (blkB_true e2).2.2.2.2.2).1;have:=(HK.out w2 HB2.out).2.2.2.1.1;omega
 have H2:=Lib.hid e2
 have hsb:=blkSumM_nn e2
 have hbb:=(blkB_true e2).1
 clear e2
 obtain ⟨sb,hsbe⟩:∃ sb,blkSumM b=sb:=⟨_,rfl⟩
 obtain ⟨fb,hfbe⟩:∃ fb,findL t.blocks b.bef=fb:=⟨_,rfl⟩
 have HSB:=Lib.hid hsbe
 have HFB:=Lib.hid hfbe
 have hfbd:=findL_bd t.blocks b.bef
 rw [hsbe] at hsb
 rw [hfbe,HL2.out] at hfbd
 clear hsbe hfbe
 have HWS:Hid ((Lit.int .i64 sb).wf=true):=Lib.hid (WalkArith.wf_i64 (by omega))
 have HWB:Hid ((Lit.int .i64 b.bef).wf=true):=Lib.hid HWF.out.1
 go_upto_region 3 with (fail)
 have HKP:Hid (∀ W':World,Below w2.heap.size w2 W'→(W'.cell? ⟨w.heap.size,0,none⟩=some (.int .i64 b.bef)∧W'.cell? ⟨w.heap.size,1,none⟩=some (.int .i64 b.hgt)∧W'.cell? ⟨w.heap.size,2,none⟩=some (.int .i64 b.view)∧W'.cell? ⟨w.heap.size,3,none⟩=some (.slice a n c)∧W'.cell? ⟨w.heap.size,4,none⟩=some (.int .i64 b.root)∧W'.cell? ⟨w.heap.size,5,none⟩=some (.int .i64 b.effs))):=Lib.hid (fun W' hb=>by obtain ⟨⟨x0,x1,x2,x3,x4,x5,-⟩,-⟩:=HK.out W' (HB2.out.trans (hb.mono HB2.out.size));exact ⟨x0,x1,x2,x3,x4,x5⟩)
 have hkp0:=HKP.out _ (Below.refl _ _)
 go_region_held3 (fun w'=>(w'.cell? ⟨w.heap.size,0,none⟩=some (.int .i64 b.bef)∧w'.cell? ⟨w.heap.size,1,none⟩=some (.int .i64 b.hgt)∧w'.cell? ⟨w.heap.size,2,none⟩=some (.int .i64 b.view)∧w'.cell? ⟨w.heap.size,3,none⟩=some (.slice a n c)∧w'.cell? ⟨w.heap.size,4,none⟩=some (.int .i64 b.root)∧w'.cell? ⟨w.heap.size,5,none⟩=some (.int .i64 b.effs))) (first | exact hkp0 | exact hkp | go_keep)
  (first | (go_at_call 55;refine (blockSum_implV b a n c w2.drew (show RowA w2.drew _ _ _ from (HK.out w2 HB2.out).2.2.2.1)).mono ?_;rintro e1 w3 ⟨rfl,hb3'⟩;have hb3:=(Below.refl w2.heap.size w2).drew.trans hb3';have hkp:=HKP.out _ hb3;rw [HSB.out]) | (go_at_call 78;refine (numberOf_impl Z m _ _ _ _ t.blocks b.bef _ (HK.out w3 (HB2.out.trans (hb3.mono HB2.out.size))).2.1 (HK.out w3 (HB2.out.trans (hb3.mono HB2.out.size))).2.2.1 HWB.out).mono ?_;rintro e1 wq ⟨rfl,rfl⟩;rw [HFB.out]))
 have HB3:=Lib.hid (HB2.out.trans (hb3.mono HB2.out.size))
 clear hkp hkp0 hb3 hb3' HKP HB2
 by_cases h4:fb = -1
 case pos =>
  have e4:(fb == -1)=true:=by simp [h4]
  have HNP:=Lib.hid (putB_no (t:=t) (b:=b) (fun hp=>hp.fnd (by rw [HFB.out];exact h4)))
  clear h4
  go_upto_region 4 with (fail)
  refine wp_region_light (by kernel_rfl) (fun lz fz wz=>Vals [(0,25,(.int .i64 fb)),(1,26,(.bool true)),(2,27,(.bool true)),(14,39,(.bool true)),(15,40,(.bool true)),(20,45,(.bool true))] lz fz∧Facts w3 [] lz fz wz) 82 rfl [25,26,27,28,29,30,31,32,33,34,35,36,37,38,39,40,41,42,43,44,45] (by kernel_rfl) (by kernel_rfl) (by kernel_rfl) (fun f=>⟨Vals.nothing _ f,Facts.nothing _ _ f⟩) ?_ ?_
  · intro i hi
    rcases (by have:i < 21:=hi;omega:i=0∨i=1∨i=2∨i=3∨i=4∨i=5∨i=6∨i=7∨i=8∨i=9∨i=10∨i=11∨i=12∨i=13∨i=14∨i=15∨i=16∨i=17∨i=18∨i=19∨i=20) with rfl | rfl | rfl | rfl | rfl | rfl | rfl | rfl | rfl | rfl | rfl | rfl | rfl | rfl | rfl | rfl | rfl | rfl | rfl | rfl | rfl
    all_goals (clear hi;intro o ho lz fz w' A ⟨hv,hr⟩ hli ha hA K hK;obtain rfl:=Option.some.inj ho;clear ho)
    · have g6:=slot_out hA 6 _ (by decide) (by decide) rfl
      simp only [List.getD_cons_succ,List.getD_cons_zero] at g6
      have gg6:=slot_get g6
      rw [if_pos (by rfl)]
      have hF:=hK (.int .i64 fb) w' ⟨hv.step 0 25 _ (by simp),hr.step 0 25 _ (Below.refl _ _) (by simp)⟩
      clear hv hr ha hK hA hli
      go_simp
      exact hF
    · have g25:=slot_in hA 25 (by decide) (by decide) (hv.at 0 rfl (ha 0 (by simp [aftersOf,Region.binds])))
      have gg25:=slot_get g25
      rw [if_pos (by rfl)]
      have hF:=hK (.bool true) w' ⟨hv.step 1 26 _ (by simp),hr.step 1 26 _ (Below.refl _ _) (by simp)⟩
      clear hv hr ha hK hA hli
      go_simp
      exact hF
    · have g26:=slot_in hA 26 (by decide) (by decide) (hv.at 1 rfl (ha 1 (by simp [aftersOf,Region.binds])))
      have gg26:=slot_get g26
      rw [if_pos (by rfl)]
      have hF:=hK (.bool true) w' ⟨hv.step 2 27 _ (by simp),hr.step 2 27 _ (Below.refl _ _) (by simp)⟩
      clear hv hr ha hK hA hli
      go_simp
      exact hF
    iterate 11
     · have g27:=slot_in hA 27 (by decide) (by decide) (hv.at 2 rfl (ha 2 (by simp [aftersOf,Region.binds])))
       have gw:=slot_bool g27
       rw [if_neg (by simp [Region.wanted,yielded,gw])]
       exact hK undef w' ⟨hv.step _ _ _ (by simp),hr.step _ _ _ (Below.refl _ _) (by simp)⟩
    · have g27:=slot_in hA 27 (by decide) (by decide) (hv.at 2 rfl (ha 2 (by simp [aftersOf,Region.binds])))
      have gg27:=slot_get g27
      rw [if_pos (by rfl)]
      have hF:=hK (.bool true) w' ⟨hv.step 14 39 _ (by simp),hr.step 14 39 _ (Below.refl _ _) (by simp)⟩
      clear hv hr ha hK hA hli
      go_simp
      exact hF
    · have g39:=slot_in hA 39 (by decide) (by decide) (hv.at 3 rfl (ha 14 (by simp [aftersOf,Region.binds])))
      have gg39:=slot_get g39
      rw [if_pos (by rfl)]
      have hF:=hK (.bool true) w' ⟨hv.step 15 40 _ (by simp),hr.step 15 40 _ (Below.refl _ _) (by simp)⟩
      clear hv hr ha hK hA hli
      go_simp
      exact hF
    iterate 4
     · have g40:=slot_in hA 40 (by decide) (by decide) (hv.at 4 rfl (ha 15 (by simp [aftersOf,Region.binds])))
       have gw:=slot_bool g40
       rw [if_neg (by simp [Region.wanted,yielded,gw])]
       exact hK undef w' ⟨hv.step _ _ _ (by simp),hr.step _ _ _ (Below.refl _ _) (by simp)⟩
    · have g40:=slot_in hA 40 (by decide) (by decide) (hv.at 4 rfl (ha 15 (by simp [aftersOf,Region.binds])))
      have gg40:=slot_get g40
      rw [if_pos (by rfl)]
      have hF:=hK (.bool true) w' ⟨hv.step 20 45 _ (by simp),hr.step 20 45 _ (Below.refl _ _) (by simp)⟩
      clear hv hr ha hK hA hli
      go_simp
      exact hF
  · intro lz fz w6 hall ⟨hv,hq⟩
    have h45:=hv.at 5 rfl (hall 20 (by decide))
    have hbR:=hq.1
    clear hv hq hall
    simp only [mixF,List.contains_cons,List.contains_nil]
    go_simp
    have HB6:=Lib.hid (HB3.out.trans (hbR.mono HB3.out.size))
    clear hbR
    have HBF:=Lib.hid (HK.out _ HB6.out).2.2.2.2.2
    go_wp2_with fail
    go_ret
    exact putW_no HIX.out HBF.out HBW.out HNP.out
 have e4:(fb == -1)=false:=by simp [h4]
 obtain ⟨g,rfl⟩:=Int.eq_ofNat_of_zero_le (show 0≤fb by omega)
 have hgn:g < n2:=by omega
 clear h4 hfbd
 obtain ⟨b0,off,rfl,hbx⟩:=(HK.out w3 HB3.out).2.2.2.2.1.at g hgn
 have hxok:=HTK.out.ok (i:=g) (by rw [HL2.out];exact hgn)
 have HXH:Hid (blkAt t.blocks (findL t.blocks b.bef).toNat=t.blocks.getD g noBlk):=Lib.hid (by rw [HFB.out];rfl)
 simp only [blkAt] at hxok HXH
 obtain ⟨x,hx⟩:∃ x,x=t.blocks.getD g noBlk:=⟨_,rfl⟩
 rw [← hx] at hbx hxok HXH
 have hxh:=(blkB_true hxok).2.2.2.1
 clear hx hxok
 obtain ⟨g0,g1,g2,⟨v,g3,a',n',c',rfl,ra,-,-⟩,g4,g5⟩:=hbx
 have hbw:=World.block_lt_of_cell? w3 ⟨b0,off+g*6,none⟩ g0
 have j1:(0:Int)≤(g:Int):=by omega
 have j2:(g:Int) < (n2:Int):=by omega
 have HKP:Hid (∀ W':World,Below w3.heap.size w3 W'→((W'.cell? ⟨w.heap.size,0,none⟩=some (.int .i64 b.bef)∧W'.cell? ⟨w.heap.size,1,none⟩=some (.int .i64 b.hgt)∧W'.cell? ⟨w.heap.size,2,none⟩=some (.int .i64 b.view)∧W'.cell? ⟨w.heap.size,3,none⟩=some (.slice a n c)∧W'.cell? ⟨w.heap.size,4,none⟩=some (.int .i64 b.root)∧W'.cell? ⟨w.heap.size,5,none⟩=some (.int .i64 b.effs))∧W'.cell? ⟨Z,1,none⟩=some (.slice (some ⟨b0,off,none⟩) n2 c2)∧W'.cell? ⟨b0,off+g*6,none⟩=some (.int .i64 x.bef)∧W'.cell? ⟨b0,off+g*6+1,none⟩=some (.int .i64 x.hgt)∧W'.cell? ⟨b0,off+g*6+2,none⟩=some (.int .i64 x.view)∧W'.cell? ⟨b0,off+g*6+3,none⟩=some (.slice a' n' c')∧W'.cell? ⟨b0,off+g*6+4,none⟩=some (.int .i64 x.root)∧W'.cell? ⟨b0,off+g*6+5,none⟩=some (.int .i64 x.effs))):=Lib.hid (fun W' hb=>by obtain ⟨⟨x0,x1,x2,x3,x4,x5,-⟩,⟨-,y1,-,-,-⟩,-⟩:=HK.out W' (HB3.out.trans (hb.mono HB3.out.size));exact ⟨⟨x0,x1,x2,x3,x4,x5⟩,y1,below_cell hb hbw g0,below_cell hb hbw g1,below_cell hb hbw g2,below_cell hb hbw g3,below_cell hb hbw g4,below_cell hb hbw g5⟩)
 clear g0 g1 g2 g3 g4 g5 ra hbw
 cases e5:nxtB b x with
 | false =>
  have HNP:=Lib.hid (putB_no (t:=t) (b:=b) (fun hp=>by
   have q1:=hp.hgt;have q2:=hp.view
   simp only [blkAt] at q1 q2
   rw [HXH.out] at q1 q2
   have:nxtB b x=true:=by simp [nxtB,q1,q2]
   rw [e5] at this;cases this))
  go_upto_region 4 with (fail)
  refine wp_region_light (by kernel_rfl) (fun lz fz wz=>Vals [(0,25,(.int .i64 (g:Int))),(1,26,(.bool false)),(2,27,(.bool false)),(3,28,(.agg #[.int .i64 b.bef,.int .i64 b.hgt,.int .i64 b.view,.slice a n c,.int .i64 b.root,.int .i64 b.effs])),(4,29,(.pointer (some ⟨Z,0,none⟩))),(5,30,(.pointer (some ⟨Z,0,none⟩))),(6,31,(.pointer (some ⟨Z,0,none⟩))),(7,32,(.pointer (some ⟨Z,1,none⟩))),(8,33,(.slice (some ⟨b0,off,none⟩) n2 c2)),(9,34,(.int .i64 (g:Int))),(10,35,(.pointer (some ⟨b0,off+g*6,none⟩))),(11,36,(.agg #[.int .i64 x.bef,.int .i64 x.hgt,.int .i64 x.view,Value.slice a' n' c',.int .i64 x.root,.int .i64 x.effs])),(12,37,(.bool false)),(13,38,(.bool true)),(14,39,(.bool true)),(15,40,(.bool true)),(20,45,(.bool true))] lz fz∧Facts w3 [] lz fz wz) 82 rfl [25,26,27,28,29,30,31,32,33,34,35,36,37,38,39,40,41,42,43,44,45] (by kernel_rfl) (by kernel_rfl) (by kernel_rfl) (fun f=>⟨Vals.nothing _ f,Facts.nothing _ _ f⟩) ?_ ?_
  · intro i hi
    rcases (by have:i < 21:=hi;omega:i=0∨i=1∨i=2∨i=3∨i=4∨i=5∨i=6∨i=7∨i=8∨i=9∨i=10∨i=11∨i=12∨i=13∨i=14∨i=15∨i=16∨i=17∨i=18∨i=19∨i=20) with rfl | rfl | rfl | rfl | rfl | rfl | rfl | rfl | rfl | rfl | rfl | rfl | rfl | rfl | rfl | rfl | rfl | rfl | rfl | rfl | rfl
    all_goals (clear hi;intro o ho lz fz w' A ⟨hv,hr⟩ hli ha hA K hK;obtain rfl:=Option.some.inj ho;clear ho)
    · have g6:=slot_out hA 6 _ (by decide) (by decide) rfl
      simp only [List.getD_cons_succ,List.getD_cons_zero] at g6
      have gg6:=slot_get g6
      rw [if_pos (by rfl)]
      have hF:=hK (.int .i64 (g:Int)) w' ⟨hv.step 0 25 _ (by simp),hr.step 0 25 _ (Below.refl _ _) (by simp)⟩
      clear hv hr ha hK hA hli
      go_simp
      exact hF
    · have g25:=slot_in hA 25 (by decide) (by decide) (hv.at 0 rfl (ha 0 (by simp [aftersOf,Region.binds])))
      have gg25:=slot_get g25
      rw [if_pos (by rfl)]
      have hF:=hK (.bool false) w' ⟨hv.step 1 26 _ (by simp),hr.step 1 26 _ (Below.refl _ _) (by simp)⟩
      clear hv hr ha hK hA hli
      go_simp
      exact hF
    · have g26:=slot_in hA 26 (by decide) (by decide) (hv.at 1 rfl (ha 1 (by simp [aftersOf,Region.binds])))
      have gg26:=slot_get g26
      rw [if_pos (by rfl)]
      have hF:=hK (.bool false) w' ⟨hv.step 2 27 _ (by simp),hr.step 2 27 _ (Below.refl _ _) (by simp)⟩
      clear hv hr ha hK hA hli
      go_simp
      exact hF
    · have g3:=slot_out hA 3 _ (by decide) (by decide) rfl
      simp only [List.getD_cons_succ,List.getD_cons_zero] at g3
      have g27:=slot_in hA 27 (by decide) (by decide) (hv.at 2 rfl (ha 2 (by simp [aftersOf,Region.binds])))
      have gg3:=slot_get g3
      have gg27:=slot_get g27
      rw [if_pos (by simp [Region.wanted,yielded,slot_bool g27])]
      obtain ⟨⟨kx0,kx1,kx2,kx3,kx4,kx5⟩,ky1,kg0,kg1,kg2,kg3,kg4,kg5⟩:=HKP.out w' hr.1
      have hF:=hK (.agg #[.int .i64 b.bef,.int .i64 b.hgt,.int .i64 b.view,.slice a n c,.int .i64 b.root,.int .i64 b.effs]) w' ⟨hv.step 3 28 _ (by simp),hr.step 3 28 _ (Below.refl _ _) (by simp)⟩
      clear hv hr ha hK hA hli
      go_simp
      exact hF
    · have g0:=slot_out hA 0 _ (by decide) (by decide) rfl
      simp only [List.getD_cons_succ,List.getD_cons_zero] at g0
      have g27:=slot_in hA 27 (by decide) (by decide) (hv.at 2 rfl (ha 2 (by simp [aftersOf,Region.binds])))
      have gg0:=slot_get g0
      have gg27:=slot_get g27
      rw [if_pos (by simp [Region.wanted,yielded,slot_bool g27])]
      have hF:=hK (.pointer (some ⟨Z,0,none⟩)) w' ⟨hv.step 4 29 _ (by simp),hr.step 4 29 _ (Below.refl _ _) (by simp)⟩
      clear hv hr ha hK hA hli
      go_simp
      exact hF
    · have g29:=slot_in hA 29 (by decide) (by decide) (hv.at 4 rfl (ha 4 (by simp [aftersOf,Region.binds])))
      have g27:=slot_in hA 27 (by decide) (by decide) (hv.at 2 rfl (ha 2 (by simp [aftersOf,Region.binds])))
      have gg29:=slot_get g29
      have gg27:=slot_get g27
      rw [if_pos (by simp [Region.wanted,yielded,slot_bool g27])]
      have hF:=hK (.pointer (some ⟨Z,0,none⟩)) w' ⟨hv.step 5 30 _ (by simp),hr.step 5 30 _ (Below.refl _ _) (by simp)⟩
      clear hv hr ha hK hA hli
      go_simp
      exact hF
    · have g30:=slot_in hA 30 (by decide) (by decide) (hv.at 5 rfl (ha 5 (by simp [aftersOf,Region.binds])))
      have g27:=slot_in hA 27 (by decide) (by decide) (hv.at 2 rfl (ha 2 (by simp [aftersOf,Region.binds])))
      have gg30:=slot_get g30
      have gg27:=slot_get g27
      rw [if_pos (by simp [Region.wanted,yielded,slot_bool g27])]
      have hF:=hK (.pointer (some ⟨Z,0,none⟩)) w' ⟨hv.step 6 31 _ (by simp),hr.step 6 31 _ (Below.refl _ _) (by simp)⟩
      clear hv hr ha hK hA hli
      go_simp
      exact hF
    · have g31:=slot_in hA 31 (by decide) (by decide) (hv.at 6 rfl (ha 6 (by simp [aftersOf,Region.binds])))
      have g27:=slot_in hA 27 (by decide) (by decide) (hv.at 2 rfl (ha 2 (by simp [aftersOf,Region.binds])))
      have gg31:=slot_get g31
      have gg27:=slot_get g27
      rw [if_pos (by simp [Region.wanted,yielded,slot_bool g27])]
      have hF:=hK (.pointer (some ⟨Z,1,none⟩)) w' ⟨hv.step 7 32 _ (by simp),hr.step 7 32 _ (Below.refl _ _) (by simp)⟩
      clear hv hr ha hK hA hli
      go_simp
      exact hF
    · have g32:=slot_in hA 32 (by decide) (by decide) (hv.at 7 rfl (ha 7 (by simp [aftersOf,Region.binds])))
      have g27:=slot_in hA 27 (by decide) (by decide) (hv.at 2 rfl (ha 2 (by simp [aftersOf,Region.binds])))
      have gg32:=slot_get g32
      have gg27:=slot_get g27
      rw [if_pos (by simp [Region.wanted,yielded,slot_bool g27])]
      obtain ⟨⟨kx0,kx1,kx2,kx3,kx4,kx5⟩,ky1,kg0,kg1,kg2,kg3,kg4,kg5⟩:=HKP.out w' hr.1
      have hF:=hK (.slice (some ⟨b0,off,none⟩) n2 c2) w' ⟨hv.step 8 33 _ (by simp),hr.step 8 33 _ (Below.refl _ _) (by simp)⟩
      clear hv hr ha hK hA hli
      go_simp
      exact hF
    · have g6:=slot_out hA 6 _ (by decide) (by decide) rfl
      simp only [List.getD_cons_succ,List.getD_cons_zero] at g6
      have g27:=slot_in hA 27 (by decide) (by decide) (hv.at 2 rfl (ha 2 (by simp [aftersOf,Region.binds])))
      have gg6:=slot_get g6
      have gg27:=slot_get g27
      rw [if_pos (by simp [Region.wanted,yielded,slot_bool g27])]
      have hF:=hK (.int .i64 (g:Int)) w' ⟨hv.step 9 34 _ (by simp),hr.step 9 34 _ (Below.refl _ _) (by simp)⟩
      clear hv hr ha hK hA hli
      go_simp
      exact hF
    · have g33:=slot_in hA 33 (by decide) (by decide) (hv.at 8 rfl (ha 8 (by simp [aftersOf,Region.binds])))
      have g34:=slot_in hA 34 (by decide) (by decide) (hv.at 9 rfl (ha 9 (by simp [aftersOf,Region.binds])))
      have g27:=slot_in hA 27 (by decide) (by decide) (hv.at 2 rfl (ha 2 (by simp [aftersOf,Region.binds])))
      have gg33:=slot_get g33
      have gg34:=slot_get g34
      have gg27:=slot_get g27
      rw [if_pos (by simp [Region.wanted,yielded,slot_bool g27])]
      have hF:=hK (.pointer (some ⟨b0,off+g*6,none⟩)) w' ⟨hv.step 10 35 _ (by simp),hr.step 10 35 _ (Below.refl _ _) (by simp)⟩
      clear hv hr ha hK hA hli
      go_simp
      exact hF
    · have g35:=slot_in hA 35 (by decide) (by decide) (hv.at 10 rfl (ha 10 (by simp [aftersOf,Region.binds])))
      have g27:=slot_in hA 27 (by decide) (by decide) (hv.at 2 rfl (ha 2 (by simp [aftersOf,Region.binds])))
      have gg35:=slot_get g35
      have gg27:=slot_get g27
      rw [if_pos (by simp [Region.wanted,yielded,slot_bool g27])]
      obtain ⟨⟨kx0,kx1,kx2,kx3,kx4,kx5⟩,ky1,kg0,kg1,kg2,kg3,kg4,kg5⟩:=HKP.out w' hr.1
      have hF:=hK (.agg #[.int .i64 x.bef,.int .i64 x.hgt,.int .i64 x.view,Value.slice a' n' c',.int .i64 x.root,.int .i64 x.effs]) w' ⟨hv.step 11 36 _ (by simp),hr.step 11 36 _ (Below.refl _ _) (by simp)⟩
      clear hv hr ha hK hA hli
      go_simp
      exact hF
    · have g28:=slot_in hA 28 (by decide) (by decide) (hv.at 3 rfl (ha 3 (by simp [aftersOf,Region.binds])))
      have g36:=slot_in hA 36 (by decide) (by decide) (hv.at 11 rfl (ha 11 (by simp [aftersOf,Region.binds])))
      have g27:=slot_in hA 27 (by decide) (by decide) (hv.at 2 rfl (ha 2 (by simp [aftersOf,Region.binds])))
      have gg28:=slot_get g28
      have gg36:=slot_get g36
      have gg27:=slot_get g27
      rw [if_pos (by simp [Region.wanted,yielded,slot_bool g27])]
      clear hA
      go_simp
      refine (isNext_impl b x (.slice a n c) (.slice a' n' c') _ (by omega) (by omega)).mono ?_
      rintro e9 w9 ⟨rfl,hb9⟩
      rw [e5]
      exact hK (.bool false) w9 ⟨hv.step 12 37 _ (by simp),hr.step 12 37 _ hb9 (by simp)⟩
    · have g37:=slot_in hA 37 (by decide) (by decide) (hv.at 12 rfl (ha 12 (by simp [aftersOf,Region.binds])))
      have g27:=slot_in hA 27 (by decide) (by decide) (hv.at 2 rfl (ha 2 (by simp [aftersOf,Region.binds])))
      have gg37:=slot_get g37
      have gg27:=slot_get g27
      rw [if_pos (by simp [Region.wanted,yielded,slot_bool g27])]
      have hF:=hK (.bool true) w' ⟨hv.step 13 38 _ (by simp),hr.step 13 38 _ (Below.refl _ _) (by simp)⟩
      clear hv hr ha hK hA hli
      go_simp
      exact hF
    · have g27:=slot_in hA 27 (by decide) (by decide) (hv.at 2 rfl (ha 2 (by simp [aftersOf,Region.binds])))
      have g38:=slot_in hA 38 (by decide) (by decide) (hv.at 13 rfl (ha 13 (by simp [aftersOf,Region.binds])))
      have gg27:=slot_get g27
      have gg38:=slot_get g38
      rw [if_pos (by rfl)]
      have hF:=hK (.bool true) w' ⟨hv.step 14 39 _ (by simp),hr.step 14 39 _ (Below.refl _ _) (by simp)⟩
      clear hv hr ha hK hA hli
      go_simp
      exact hF
    · have g39:=slot_in hA 39 (by decide) (by decide) (hv.at 14 rfl (ha 14 (by simp [aftersOf,Region.binds])))
      have gg39:=slot_get g39
      rw [if_pos (by rfl)]
      have hF:=hK (.bool true) w' ⟨hv.step 15 40 _ (by simp),hr.step 15 40 _ (Below.refl _ _) (by simp)⟩
      clear hv hr ha hK hA hli
      go_simp
      exact hF
    iterate 4
     · have g40:=slot_in hA 40 (by decide) (by decide) (hv.at 15 rfl (ha 15 (by simp [aftersOf,Region.binds])))
       have gw:=slot_bool g40
       rw [if_neg (by simp [Region.wanted,yielded,gw])]
       exact hK undef w' ⟨hv.step _ _ _ (by simp),hr.step _ _ _ (Below.refl _ _) (by simp)⟩
    · have g40:=slot_in hA 40 (by decide) (by decide) (hv.at 15 rfl (ha 15 (by simp [aftersOf,Region.binds])))
      have gg40:=slot_get g40
      rw [if_pos (by rfl)]
      have hF:=hK (.bool true) w' ⟨hv.step 20 45 _ (by simp),hr.step 20 45 _ (Below.refl _ _) (by simp)⟩
      clear hv hr ha hK hA hli
      go_simp
      exact hF
  · intro lz fz w6 hall ⟨hv,hq⟩
    have h45:=hv.at 16 rfl (hall 20 (by decide))
    have hbR:=hq.1
    clear hv hq hall
    simp only [mixF,List.contains_cons,List.contains_nil]
    go_simp
    have HB6:=Lib.hid (HB3.out.trans (hbR.mono HB3.out.size))
    clear hbR
    have HBF:=Lib.hid (HK.out _ HB6.out).2.2.2.2.2
    go_wp2_with fail
    go_ret
    exact putW_no HIX.out HBF.out HBW.out HNP.out
 | true =>
 obtain ⟨fs,hfse⟩:∃ fs,findL t.blocks sb=fs:=⟨_,rfl⟩
 have HFS:=Lib.hid hfse
 clear hfse
 by_cases h6:fs = -1
 case neg =>
  have e6:(fs != -1)=true:=by simp [h6]
  have HNP:=Lib.hid (putB_no (t:=t) (b:=b) (fun hp=>h6 (by rw [← HFS.out,← HSB.out];exact hp.new)))
  clear h6
  have hkp0:=HKP.out _ (Below.refl _ _)
  go_upto_region 4 with (fail)
  go_region_held3 (fun W'=>((W'.cell? ⟨w.heap.size,0,none⟩=some (.int .i64 b.bef)∧W'.cell? ⟨w.heap.size,1,none⟩=some (.int .i64 b.hgt)∧W'.cell? ⟨w.heap.size,2,none⟩=some (.int .i64 b.view)∧W'.cell? ⟨w.heap.size,3,none⟩=some (.slice a n c)∧W'.cell? ⟨w.heap.size,4,none⟩=some (.int .i64 b.root)∧W'.cell? ⟨w.heap.size,5,none⟩=some (.int .i64 b.effs))∧W'.cell? ⟨Z,1,none⟩=some (.slice (some ⟨b0,off,none⟩) n2 c2)∧W'.cell? ⟨b0,off+g*6,none⟩=some (.int .i64 x.bef)∧W'.cell? ⟨b0,off+g*6+1,none⟩=some (.int .i64 x.hgt)∧W'.cell? ⟨b0,off+g*6+2,none⟩=some (.int .i64 x.view)∧W'.cell? ⟨b0,off+g*6+3,none⟩=some (.slice a' n' c')∧W'.cell? ⟨b0,off+g*6+4,none⟩=some (.int .i64 x.root)∧W'.cell? ⟨b0,off+g*6+5,none⟩=some (.int .i64 x.effs))) (first | exact hkp0 | exact hkp | go_keep)
   (first | (go_at_call 107;refine (isNext_impl b x (.slice a n c) (.slice a' n' c') w3.drew (by omega) (by omega)).mono ?_;rintro e1 w4 ⟨rfl,hb4'⟩;have hb4:=(Below.refl w3.heap.size w3).drew.trans hb4';have hkp:=HKP.out _ hb4;rw [e5]) | (go_at_call 78;refine (numberOf_impl Z m _ _ _ _ t.blocks sb _ (HK.out w4 (HB3.out.trans (hb4.mono HB3.out.size))).2.1 (HK.out w4 (HB3.out.trans (hb4.mono HB3.out.size))).2.2.1 HWS.out).mono ?_;rintro e1 wq ⟨rfl,rfl⟩;rw [HFS.out]))
  have HB4:=Lib.hid (HB3.out.trans (hb4.mono HB3.out.size))
  clear hkp hkp0 hb4 hb4' HKP
  have HBF:=Lib.hid (HK.out _ HB4.out).2.2.2.2.2
  go_wp2_with fail
  go_ret
  exact putW_no HIX.out HBF.out HBW.out HNP.out
 have e6:(fs != -1)=false:=by simp [h6]
 have HOK:Hid (PutOk t b):=Lib.hid (by
  simp only [nxtB,Bool.and_eq_true,decide_eq_true_eq] at e5
  exact ⟨by rw [HL2.out];exact H1.out,H2.out,by rw [HFB.out];omega,by simp only [blkAt];rw [HXH.out];exact e5.1,by simp only [blkAt];rw [HXH.out];exact e5.2,by rw [HSB.out,HFS.out];exact h6⟩)
 clear h6
 have hkp0:=HKP.out _ (Below.refl _ _)
 go_upto_region 4 with (fail)
 go_region_held3 (fun W'=>((W'.cell? ⟨w.heap.size,0,none⟩=some (.int .i64 b.bef)∧W'.cell? ⟨w.heap.size,1,none⟩=some (.int .i64 b.hgt)∧W'.cell? ⟨w.heap.size,2,none⟩=some (.int .i64 b.view)∧W'.cell? ⟨w.heap.size,3,none⟩=some (.slice a n c)∧W'.cell? ⟨w.heap.size,4,none⟩=some (.int .i64 b.root)∧W'.cell? ⟨w.heap.size,5,none⟩=some (.int .i64 b.effs))∧W'.cell? ⟨Z,1,none⟩=some (.slice (some ⟨b0,off,none⟩) n2 c2)∧W'.cell? ⟨b0,off+g*6,none⟩=some (.int .i64 x.bef)∧W'.cell? ⟨b0,off+g*6+1,none⟩=some (.int .i64 x.hgt)∧W'.cell? ⟨b0,off+g*6+2,none⟩=some (.int .i64 x.view)∧W'.cell? ⟨b0,off+g*6+3,none⟩=some (.slice a' n' c')∧W'.cell? ⟨b0,off+g*6+4,none⟩=some (.int .i64 x.root)∧W'.cell? ⟨b0,off+g*6+5,none⟩=some (.int .i64 x.effs))) (first | exact hkp0 | exact hkp | go_keep)
  (first | (go_at_call 107;refine (isNext_impl b x (.slice a n c) (.slice a' n' c') w3.drew (by omega) (by omega)).mono ?_;rintro e1 w4 ⟨rfl,hb4'⟩;have hb4:=(Below.refl w3.heap.size w3).drew.trans hb4';have hkp:=HKP.out _ hb4;rw [e5]) | (go_at_call 78;refine (numberOf_impl Z m _ _ _ _ t.blocks sb _ (HK.out w4 (HB3.out.trans (hb4.mono HB3.out.size))).2.1 (HK.out w4 (HB3.out.trans (hb4.mono HB3.out.size))).2.2.1 HWS.out).mono ?_;rintro e1 wq ⟨rfl,rfl⟩;rw [HFS.out]))
 have HB4:=Lib.hid (HB3.out.trans (hb4.mono HB3.out.size))
 clear hkp hkp0 hb4 hb4' HKP
 clear e4 e5 e6 HXH HFS HTK ht hxh j1 j2
 have hix4:=HIX.out.below (HK.out _ HB4.out).2.2.2.2.2
 obtain ⟨w5,hrun,hm5,hg5⟩:=(show MapF w4.drew m t.blocks.length (idxF t.blocks) from hix4.map).updRun (by rw [HL2.out];omega) sb t.blocks.length HWS.out (WalkArith.wf_i64 (by rw [HL2.out];omega))
 have hM5:TrIxM w5 B Z m tTreP v1 (.slice (some ⟨b0,off,none⟩) n2 c2) v3 t ts (t.blocks++[b]):=(hix4.below ((Below.refl _ _).drew)).toM HOK.out.new (by rw [HSB.out];exact hm5) hg5
 have hA5:BkAt w5 w.heap.size (.int .i64 b.bef) (.int .i64 b.hgt) (.int .i64 b.view) (.slice a n c) (.int .i64 b.root) (.int .i64 b.effs):=((HK.out _ HB4.out).1.below ((Below.refl _ _).drew)).grown hg5 (by have h1:=HIX.out.map.lt;intro e;injection e with e;omega)
 have hR5:RowA w5 a n b.acts:=(show RowA w4.drew a n b.acts from (HK.out _ HB4.out).2.2.2.1).stay hg5 (fun h0 p o he e=>HNE.out h0 p o he (by injection e))
 have hB5:Below B w w5:=((HK.out _ HB4.out).2.2.2.2.2.drew.mono HBW.out).grown hg5 (by have:=(HK.out _ HB4.out).2.2.2.2.2.size;have:=HBW.out;simp only [World.drew];omega) (fun k hk=>by cases hk;exact HIX.out.mB)
 rw [HL2.out] at hrun
 obtain ⟨-,⟨y0,y1,y2,y3,-⟩,-,-,-,-⟩:=HK.out _ HB4.out
 have HM5:=Lib.hid hM5
 have HA5:=Lib.hid hA5
 have HR5:=Lib.hid hR5
 have HB5:=Lib.hid hB5
 clear hix4 hm5 hg5 hM5 hA5 hR5 hB5
 go_upto_region 6 with (fail)
 go_region
 have hn3:n≤3000000:=by omega
 have HKB:Hid (∀ W':World,Below w5.heap.size w5 W'→BkAt W' w.heap.size (.int .i64 b.bef) (.int .i64 b.hgt) (.int .i64 b.view) (.slice a n c) (.int .i64 b.root) (.int .i64 b.effs)∧IxAt W' Z v1 (.slice (some ⟨b0,off,none⟩) n2 c2) v3 (.map (some m))∧W'.ownsRow B 52 6 (.slice (some ⟨b0,off,none⟩) n2 c2) n2 (bksCs t.blocks ts)):=Lib.hid (fun W' hb=>⟨HA5.out.below hb,HM5.out.box.below hb,by
  have:=owns_below (HM5.out.own.own _ (treRs_swap.mem_iff.2 List.mem_cons_self)) hb
  simp only at this;rw [HL2.out] at this;exact this⟩)
 have HBS:Hid (B≤w5.heap.size):=Lib.hid (Nat.le_trans HBW.out HB5.out.size)
 have HBK:Hid (BkWf b):=Lib.hid ⟨HWF.out,HR5.out.2.2.2,by have:=HR5.out.1;omega⟩
 obtain ⟨⟨x0,x1,x2,x3,x4,x5,-⟩,⟨z0,z1,z2,z3,-⟩,-⟩:=HKB.out w5 (Below.refl _ _)
 clear hrun y0 y1 y2 y3
 go_upto_region 7 with (fail)
 go_region_law (first
  | (go_simp;go_at_call 108;refine (copied_impl b a n c w5.drew (show RowA w5.drew a n b.acts from HR5.out) hz hn3 HWF.out).mono ?_;rintro e1 w7 ⟨v7,rfl,ho7,-,-,hb7'⟩;have hb7:=(Below.refl w5.heap.size w5).drew.trans hb7';obtain ⟨ag,ng,kg,rfl⟩:=slice_form ho7;obtain ⟨-,⟨u0,u1,u2,u3,-⟩,hown7⟩:=HKB.out w7 hb7;obtain ⟨-,⟨ua0,ua1,ua2,ua3,-⟩,-⟩:=HKB.out (w7.alloc (.cells #[.int .i64 b.bef,.int .i64 b.hgt,.int .i64 b.view,.slice ag ng kg,.int .i64 b.root,.int .i64 b.effs] 52)) (hb7.trans (((Below.refl w7.heap.size w7).alloc (Nat.le_refl _) _).mono hb7.size)))
  | (refine step_app1 (W:=w7) rfl (.tmp 62) (.tmp 65) 25 rfl B 52 _ (.agg #[.int .i64 0,.int .i64 0,.int .i64 0,.slice none 0 0,.int .i64 0,.int .i64 0]) 6 64 Tryz.underlying25 infoBlkP rfl (by decide) (.slice (some ⟨b0,off,none⟩) n2 c2) n2 _ [.int .i64 b.bef,.int .i64 b.hgt,.int .i64 b.view,.slice ag ng kg,.int .i64 b.root,.int .i64 b.effs] (by rfl) hown7 (by rfl) rfl (by intro u hu;simp at hu;rcases hu with rfl | rfl | rfl | rfl | rfl | rfl <;> rfl) (by omega) (by decide) (Nat.le_trans HBS.out hb7.size) ?_;intro v8 w8 ho8 hnn hg8 hat;obtain ⟨pa,pn,pc,rfl⟩:=slice_form ho8;obtain ⟨⟨q0,q1,q2,q3,qf0,qf1,qf2,qf3⟩,hM8⟩:=HM5.out.putBlock hb7 ho7 hg8 hat (by rw [HL2.out];exact ho8) HBK.out (by rw [HL2.out];omega)))
 all_goals
  have HM8:=Lib.hid hM8
  have hB8:Below B w (w8.setCell ⟨Z,1,none⟩ (.slice pa pn pc)):=by
   have h1:=HIX.out.zB
   have h2:Below B w w8:=((HB5.out.trans (hb7.mono HBS.out)).alloc (Nat.le_trans HBS.out hb7.size) _).grown hg8 (Nat.le_trans (Nat.le_trans HBS.out hb7.size) (by rw [World.size_alloc];omega)) (fun k hk=>(hown7.lt k hk).1)
   exact h2.setCell h1 _
  have HB8:=Lib.hid hB8
  clear hB8 hM8 u0 u1 u2 u3 ua0 ua1 ua2 ua3 q0 q1 q2 q3 qf0 qf1 qf2 qf3 hg8 hat ho8 hnn hown7 ho7 hb7 hb7' x0 x1 x2 x3 x4 x5 z0 z1 z2 z3 HKB HM5 HA5 HR5
  go_upto_region 8 with (fail)
  obtain ⟨w9,hw9⟩:∃ w9,w9=w8.setCell ⟨Z,1,none⟩ (.slice pa pn pc):=⟨_,rfl⟩
  rw [← hw9] at HM8 HB8 ⊢
  clear hw9
  obtain ⟨z0,z1,z2,z3,zf0,zf1,zf2,zf3⟩:=HM8.out.box
  obtain ⟨a3,n3,c3,rfl⟩:=slice_form (HM8.out.own.own _ (treRs_swap3.mem_iff.2 List.mem_cons_self))
  have ho3:=HM8.out.own.own _ (treRs_swap3.mem_iff.2 List.mem_cons_self)
  simp only at ho3
  have hb9:B≤w9.heap.size:=Nat.le_trans HM8.out.zB (Nat.le_of_lt HM8.out.box.lt)
  have hl3:t.bef.length≤14:=by rw [HLB.out,HL2.out];exact hn14
  go_wp2_with (first | (at_builtin;refine wpList_append_lit (W:=w9) rfl _ _ 26 rfl B 3 3 (.int .i64 0) 1 8 1 Tryz.underlying26 infoIntP rfl (by decide) _ t.bef.length _ [.int .i64 (g:Int)] (by rfl) ho3 (by simp [Act.eval]) rfl ?c11 (by decide) ?c21 (by decide) ?c31 ?_))
  case c11=>intro u hu;simp at hu;rcases hu with rfl;rfl
  case c21=>show t.bef.length+1≤_;omega
  case c31=>exact hb9
  intro v10 w10 ho10 hnn10 hg10 hat10
  obtain ⟨ra,rn,rc,rfl⟩:=slice_form ho10
  obtain ⟨⟨k0,k1,k2,k3,kf0,kf1,kf2,kf3⟩,hX⟩:=HM8.out.putBef (n:=(g:Int)) rfl hg10 hat10 ho10 (WalkArith.wf_i64 (by omega)) (by show t.bef.length < 4000000;omega)
  have hBF:Below B w (w10.setCell ⟨Z,2,none⟩ (.slice ra rn rc)):=by
   have h1:=HIX.out.zB
   have h2:Below B w w10:=(HB8.out.alloc hb9 _).grown hg10 (by rw [World.size_alloc];omega) (fun k hk=>(ho3.lt k hk).1)
   exact h2.setCell h1 _
  have HX:=Lib.hid hX
  have HBF:=Lib.hid hBF
  have hsz:w.heap.size≤(w10.setCell ⟨Z,2,none⟩ (.slice ra rn rc)).heap.size:=hBF.size
  have HSZ:=Lib.hid hsz
  clear hX hBF hsz hg10 hat10 ho10 hnn10 ho3 z0 z1 z2 z3 zf0 zf1 zf2 zf3
  go_wp2_with fail
  go_ret
  have hpt:putB t b=true:=(putB_iff t b).2 HOK.out
  have hfin:=HX.out
  simp only [Tre.mid] at hfin
  rw [← HFB.out] at hfin
  exact ⟨by rw [hpt];rfl,HBF.out,HSZ.out,(fun e=>(by rw [hpt] at e;cases e)),fun _=>⟨_,_,_,hfin⟩⟩
end Go.Proofs.YtalohgmgkjfdbaaGreat

/- Texts of ours that stand together: SpecTr3, SpecTr4, SpecTr5, SpecTr6, TreeOfTr -/
import Derived.Test.YtpnjgmgmakmgeaaGreatCvB
import Derived.Test.YtpnjgmgmakmgeaaGreatTrX
import Derived.Test.YtpnjgmgmakmgeaaGreatRegT
import Derived.Test.YtpnjgmgmakmgeaaGreatImplNum
import Derived.Test.YtpnjgmgmakmgeaaGreatSpB
import Derived.Deep.Cut
import Derived.Test.YtpnjgmgmakmgeaaGreatSpecTr2
import Derived.Deep.RegionLaw
import Derived.Test.YtpnjgmgmakmgeaaGreatTrFP
import Derived.Test.YtpnjgmgmakmgeaaGreatSpecXb
import Derived.Deep.RegionHeld3
import Derived.Test.YtpnjgmgmakmgeaaGreatSpecNext
import Derived.Deep.DeepCutAuto
import Derived.Test.YtpnjgmgmakmgeaaGreatImT
import Derived.Test.YtpnjgmgmakmgeaaGreatSpecS
import Derived.Test.YtpnjgmgmakmgeaaGreatTwo
/- The contract of the model's l13Copy (gen17/copytr.py). -/
namespace Go.Proofs.YtpnjgmgmakmgeaaGreat
open Go.RowKit
set_option linter.unusedVariables false
set_option linter.unusedSimpArgs false
theorem infoEntT:(Tryz.prog.info? 142).map (fun i=>(i.zero,i.size,i.bytes))=some (some (.agg #[.int .i64 0,.int .i64 0]),2,16):=by kernel_rfl
theorem infoIntT:(Tryz.prog.info? 3).map (fun i=>(i.zero,i.size,i.bytes))=some (some (.int .i64 0),1,8):=by kernel_rfl
theorem infoActT:(Tryz.prog.info? 113).map (fun i=>(i.zero,i.size,i.bytes))=some (some (.agg #[.int .i64 0,.int .i64 0,.int .i64 0,.int .i64 0]),4,32):=by kernel_rfl
theorem infoBlkT:(Tryz.prog.info? 37).map (fun i=>(i.zero,i.size,i.bytes))=some (some (.agg #[.int .i64 0,.int .i64 0,.int .i64 0,.slice none 0 0,.int .i64 0,.int .i64 0]),6,64):=by kernel_rfl
theorem RowI.newsT {w:World} {a:Option Addr} {n:Nat} {l:List Int} (h:RowI w a n l):∀ ad,a=some ad→∀ j u,(l.map (Value.int .i64))[j]? = some u→w.cell? (ad.add j)=some u:=by
 intro ad he j u hu
 have hj:j < n:=by
  have:=(List.getElem?_eq_some_iff.1 hu).1
  rw [List.length_map,h.1] at this;exact this
 obtain ⟨b,off,he',hc⟩:=h.2.2.1 (by omega)
 rw [he] at he'
 cases he'
 rw [show (⟨b,off,none⟩:Addr).add j=⟨b,off+j,none⟩ by unfold Addr.add;split <;> simp_all]
 rw [hc j hj,List.getD_eq_getElem?_getD]
 rw [List.getElem?_map] at hu
 cases hl:l[j]? with
 | none=>rw [hl] at hu;cases hu
 | some y=>rw [hl] at hu;exact hu
theorem ints_oneT (l:List Int):∀ u∈l.map (Value.int .i64),u.oneCell'=true:=by
 intro u hu
 obtain ⟨x,-,rfl⟩:=List.mem_map.1 hu;rfl
theorem treWf_take {t:Tre} (h:TreWf t) (k:Nat):TreWf ⟨t.base,t.blocks.take k,t.bef⟩ :=
 ⟨h.base,h.bef,⟨fun x hx=>h.blocks.all x (List.mem_of_mem_take hx),by have:=h.blocks.len;rw [List.length_take];omega⟩,h.blen,h.flen⟩
theorem sumBk_ten {L:List Blk} (h:∀ x∈L,x.acts.length≤10):sumBk L≤10*L.length:=by
 induction L with
 | nil=>exact Nat.le_refl _
 | cons b r ih =>
  have:=ih (fun x hx=>h x (List.mem_cons_of_mem _ hx))
  have:=h b List.mem_cons_self
  simp only [sumBk,List.length_cons];omega
theorem treWf_ok {w:World} {v1 v2 v3:Value} {t:Tre} (h:TreRd w v1 v2 v3 t) (hk:treB t=true):TreWf t:=by
 have ht:=(treB_iff t).1 hk
 have hb:=store_len ht.base
 have hl:=ht.len
 have hm:=ht.most
 have hs:=sumBk_ten (L:=t.blocks) (fun x hx=>by
  obtain ⟨k,hk,rfl⟩:=List.getElem_of_mem hx
  have:=(actsB_true (blkB_true (ht.ok hk)).2.2.2.2.2).1
  have e:blkAt t.blocks k=t.blocks[k]:=by unfold blkAt;rw [List.getD_eq_getElem?_getD,List.getElem?_eq_getElem hk];rfl
  rw [← e];exact this)
 exact treWf_rd h (by unfold wtTre wtBks;omega)
theorem BkAt.put3' {w:World} {Z:Nat} {v0 v1 v2 v3 v4 v5:Value} (h:BkAt w Z v0 v1 v2 v3 v4 v5) (x:Value):BkAt (w.setCell ⟨Z,3,none⟩ x) Z v0 v1 v2 x v4 v5:=by
 constructor <;> simp [go_sem,h.c0,h.c1,h.c2,h.c3,h.c4,h.c5,h.f0,h.f1,h.f2,h.f3,h.f4,h.f5]
set_option maxRecDepth 100000 in
set_option maxHeartbeats 8000000 in
theorem l13Copy_spec (v1 v2 v3:Value) (t:Tre) (w:World) (h:TreRd w v1 v2 v3 t) (hwf:TreWf t) :
  Calls Tryz.prog 95 #[.agg #[v1,v2,v3]] w (NewTre w tTre t):=by
 obtain ⟨⟨a1,n1,c1,rfl,hr1,hz1,hcc1⟩,⟨a2,n2,c2,rfl,hr2,hz2,hcc2⟩,a3,n3,c3,rfl,hr3,hz3,hcc3⟩:=h
 have hb0:=((Below.refl w.heap.size w).alloc (Nat.le_refl _) (.cells #[.slice a1 n1 c1,.slice a2 n2 c2,.slice a3 n3 c3] 27)).alloc (by simp) (.cells #[.slice none 0 0,.slice none 0 0,.slice none 0 0] 27)
 have hg0:=(trAt_new w 27 (.slice a1 n1 c1) (.slice a2 n2 c2) (.slice a3 n3 c3)).below ((Below.refl _ _).alloc (Nat.le_refl _) (.cells #[.slice none 0 0,.slice none 0 0,.slice none 0 0] 27))
 have hg1:=trAt_new (w.alloc (.cells #[.slice a1 n1 c1,.slice a2 n2 c2,.slice a3 n3 c3] 27)) 27 (.slice none 0 0) (.slice none 0 0) (.slice none 0 0)
 rw [World.size_alloc] at hg1
 have HL1:Hid ((flatE t.base).length=n1*2):=Lib.hid (by rw [flatE_len,hr1.1])
 have HL3:Hid ((t.bef.map (Value.int .i64)).length=n3*1):=Lib.hid (by rw [List.length_map,hr3.1,Nat.mul_one])
 have hm1:n1≤4000000:=by rw [← hr1.1];exact hwf.blen
 have hm3:n3≤4000000:=by rw [← hr3.1];exact hwf.flen
 have HN1:Hid (a1=none→n1=0∧c1=0):=Lib.hid (fun he=>by have:=hz1 he;omega)
 have HN3:Hid (a3=none→n3=0∧c3=0):=Lib.hid (fun he=>by have:=hz3 he;omega)
 go_enter Tryz.func95,Tryz.ntmps95
 go_upto_region 1 with (fail)
 obtain ⟨w0,hw0⟩:∃ w0,w0=(w.alloc (.cells #[.slice a1 n1 c1,.slice a2 n2 c2,.slice a3 n3 c3] 27)).alloc (.cells #[.slice none 0 0,.slice none 0 0,.slice none 0 0] 27):=⟨_,rfl⟩
 have hsz0:w.heap.size+2≤w0.heap.size:=by rw [hw0];simp
 rw [← hw0] at hb0 hg0 hg1 ⊢
 clear hw0
 have HC:=Lib.hid (fun (W:World) (hb:Below w0.heap.size w0 W)=>hg0.below hb)
 have HZ2:=Lib.hid (fun (W:World) (hb:Below w0.heap.size w0 W)=>hg1.below hb)
 have HL2:=Lib.hid hr2.1
 have HWF:=Lib.hid hwf
 have HW1:=Lib.hid (fun (W:World) (hb:Below w0.heap.size w0 W)=>((hr1.below hb0).below hb).news)
 have HW3:=Lib.hid (fun (W:World) (hb:Below w0.heap.size w0 W)=>((hr3.below hb0).below hb).newsT)
 have h2w:=hr2.below hb0
 have HB0:=Lib.hid hb0
 clear hr1 hr2 hr3 hb0 hg0 hg1 hz1 hz2 hz3 hcc1 hcc2 hcc3 hwf
 refine wp_region_light (by kernel_rfl) (LastJ (fun lz fz wz=>Vals [(1,7,(.pointer (some ⟨w.heap.size,0,none⟩))),(2,8,(.slice a1 n1 c1)),(5,11,(.pointer (some ⟨w.heap.size,2,none⟩))),(6,12,(.slice a3 n3 c3))] lz fz∧Deps [(⟨8,14,[(3,9),(7,13)],fun f=>.agg #[f 9,.slice none 0 0,f 13],fun f g h=>by simp at h;simp [h]⟩:DepT)] lz fz∧RowsJ w0 [(⟨0,some 3,6,142,2,0,[]⟩:RowT),(⟨3,none,9,142,2,n1,(flatE t.base)⟩:RowT),(⟨4,some 7,10,3,1,0,[]⟩:RowT),(⟨7,none,13,3,1,n3,(t.bef.map (Value.int .i64))⟩:RowT)] lz fz wz∧PtrJ w0 [(⟨0,some 3,6,142,2,0,[]⟩:RowT),(⟨3,none,9,142,2,n1,(flatE t.base)⟩:RowT),(⟨4,some 7,10,3,1,0,[]⟩:RowT),(⟨7,none,13,3,1,n3,(t.bef.map (Value.int .i64))⟩:RowT)] 9 3 (fun W b=>TrAt W b (.slice none 0 0) (.slice none 0 0) (.slice none 0 0)) lz fz wz) 10 11 (fun f wz=>∃ (w1:World) (u1 u3:Value) (b:Nat),f 3 = .pointer (some ⟨b,0,none⟩)∧w0.heap.size≤b∧b < w1.heap.size∧OwnR w1 w0.heap.size w1.heap.size [⟨u1,142,2,n1,flatE t.base⟩,⟨u3,3,1,n3,(t.bef.map (Value.int .i64))⟩]∧blk u1≠some b∧blk u3≠some b∧Below w0.heap.size w0 w1∧TrAt w1 b (.slice none 0 0) (.slice none 0 0) (.slice none 0 0)∧wz=set3b w1 b u1 (.slice none 0 0) u3)) 39 rfl [6,7,8,9,10,11,12,13,14,3] (by kernel_rfl) (by kernel_rfl) (by kernel_rfl) (fun f=>LastJ.nothing ⟨Vals.nothing _ f,Deps.nothing _ f,RowsJ.nothing _ _ f,PtrJ.nothing _ _ _ _ _ f _⟩) ?_ ?_
 · intro i hi
   rcases (by have:i < 11:=hi;omega:i=0∨i=1∨i=2∨i=3∨i=4∨i=5∨i=6∨i=7∨i=8∨i=9∨i=10) with rfl | rfl | rfl | rfl | rfl | rfl | rfl | rfl | rfl | rfl | rfl
   · clear hi;intro o ho lz fz w' A hJ hli ha hA K hK
     obtain ⟨hv,hd,hq,hp⟩:=hJ.now (i:=0) (by omega) hli
     obtain rfl:=Option.some.inj ho
     clear ho
     have hB:=hq.below
     rw [if_pos (by rfl)]
     go_simp
     exact hK _ _ (LastJ.step hJ 0 (by omega) hli (by decide) ⟨hv.step 0 6 _ (by simp),hd.step 0 6 _ hli (by simp [allR]),hq.new 0 6 _ ((Below.refl w'.heap.size w').alloc (Nat.le_refl _) _) (by simp;exact owns_lit0 _ _ _),hp.new (fun _ _ _ hb h=>TrAt.keep h hb) 0 6 _ (by decide) (by decide) ((Below.refl w'.heap.size w').alloc (Nat.le_refl _) _) (by simp;exact owns_lit0 _ _ _)⟩)
   · clear hi;intro o ho lz fz w' A hJ hli ha hA K hK
     obtain ⟨hv,hd,hq,hp⟩:=hJ.now (i:=1) (by omega) hli
     obtain rfl:=Option.some.inj ho
     clear ho
     have hB:=hq.below
     have gg1:=so hA 1 _ rfl
     simp only [List.getD_cons_succ,List.getD_cons_zero] at gg1
     rw [if_pos (by rfl)]
     have hF:=hK (.pointer (some ⟨w.heap.size,0,none⟩)) w' (LastJ.step hJ 1 (by omega) hli (by decide) ⟨hv.step 1 7 _ (by simp),hd.step 1 7 _ hli (by simp [allR]),hq.still 1 7 _ (Below.refl _ _) (by simp),hp.still (fun _ _ _ hb h=>TrAt.keep h hb) 1 7 _ (by decide) (by decide) (Below.refl _ _) (by simp)⟩)
     clear hv hp hq ha hK hA hli hd hB hJ;go_simp;exact hF
   · clear hi;intro o ho lz fz w' A hJ hli ha hA K hK
     obtain ⟨hv,hd,hq,hp⟩:=hJ.now (i:=2) (by omega) hli
     obtain rfl:=Option.some.inj ho
     clear ho
     have hB:=hq.below
     have gg7:=sj hA 7 (hv (1,7,(.pointer (some ⟨w.heap.size,0,none⟩))) (by simp) (ha 1 (by decide)))
     rw [if_pos (by rfl)]
     obtain ⟨k0,k1,k2,-⟩:=HC.out w' hB
     have hF:=hK (.slice a1 n1 c1) w' (LastJ.step hJ 2 (by omega) hli (by decide) ⟨hv.step 2 8 _ (by simp),hd.step 2 8 _ hli (by simp [allR]),hq.still 2 8 _ (Below.refl _ _) (by simp),hp.still (fun _ _ _ hb h=>TrAt.keep h hb) 2 8 _ (by decide) (by decide) (Below.refl _ _) (by simp)⟩)
     clear hv hp hq ha hK hA hli hd hB hJ;go_simp;exact hF
   · clear hi;intro o ho lz fz w' A hJ hli ha hA K hK
     obtain ⟨hv,hd,hq,hp⟩:=hJ.now (i:=3) (by omega) hli
     obtain rfl:=Option.some.inj ho
     clear ho
     have hB:=hq.below
     have g6:A.tmps.getD 6 undef=fz 6:=si hA 6 rfl
     have g8:=si hA 8 (hv (2,8,(.slice a1 n1 c1)) (by simp) (ha 2 (by decide)))
     have gg6:=slot_get g6
     have gg8:=slot_get g8
     rw [if_pos (by rfl)]
     have ha0:=ha 0 (by decide)
     have o0:=hq.at (t:=⟨0,some 3,6,142,2,0,[]⟩) (by simp) ha0 (by simpa using hli)
     refine wp_append_copy (.tmp 6) (.tmp 8) 23 rfl w0.heap.size 142 (.agg #[.int .i64 0,.int .i64 0]) 2 16 Tryz.underlying23 infoEntT rfl (by decide) (by rw [slot_eval g6];exact o0) a1 n1 c1 (by rw [slot_eval g8]) HN1.out (flatE t.base) HL1.out (HW1.out w' hB) (flatE_oneCell _) hm1 (by decide) hB.size ?_
     intro v9 w9 ho9 hg9 hl9
     rw [slot_eval g6] at hg9 hl9
     exact hK v9 w9 (LastJ.step hJ 3 (by omega) hli (by decide) ⟨hv.step 3 9 _ (by simp),hd.step 3 9 _ hli (by simp [allR]),hq.repl 3 9 v9 ⟨0,some 3,6,142,2,0,[]⟩ (by simp) (by simp [RowT.live,ha0,hli]) hg9 hl9 (by simp;exact ho9),hp.repl (fun _ _ _ hb h=>TrAt.keep h hb) hq 3 9 v9 (by decide) (by decide) ⟨0,some 3,6,142,2,0,[]⟩ (by simp) (by simp [RowT.live,ha0,hli]) hg9 hl9 (by simp;exact ho9)⟩)
   · clear hi;intro o ho lz fz w' A hJ hli ha hA K hK
     obtain ⟨hv,hd,hq,hp⟩:=hJ.now (i:=4) (by omega) hli
     obtain rfl:=Option.some.inj ho
     clear ho
     have hB:=hq.below
     rw [if_pos (by rfl)]
     go_simp
     exact hK _ _ (LastJ.step hJ 4 (by omega) hli (by decide) ⟨hv.step 4 10 _ (by simp),hd.step 4 10 _ hli (by simp [allR]),hq.new 4 10 _ ((Below.refl w'.heap.size w').alloc (Nat.le_refl _) _) (by simp;exact owns_lit0 _ _ _),hp.new (fun _ _ _ hb h=>TrAt.keep h hb) 4 10 _ (by decide) (by decide) ((Below.refl w'.heap.size w').alloc (Nat.le_refl _) _) (by simp;exact owns_lit0 _ _ _)⟩)
   · clear hi;intro o ho lz fz w' A hJ hli ha hA K hK
     obtain ⟨hv,hd,hq,hp⟩:=hJ.now (i:=5) (by omega) hli
     obtain rfl:=Option.some.inj ho
     clear ho
     have hB:=hq.below
     have gg1:=so hA 1 _ rfl
     simp only [List.getD_cons_succ,List.getD_cons_zero] at gg1
     rw [if_pos (by rfl)]
     have hF:=hK (.pointer (some ⟨w.heap.size,2,none⟩)) w' (LastJ.step hJ 5 (by omega) hli (by decide) ⟨hv.step 5 11 _ (by simp),hd.step 5 11 _ hli (by simp [allR]),hq.still 5 11 _ (Below.refl _ _) (by simp),hp.still (fun _ _ _ hb h=>TrAt.keep h hb) 5 11 _ (by decide) (by decide) (Below.refl _ _) (by simp)⟩)
     clear hv hp hq ha hK hA hli hd hB hJ;go_simp;exact hF
   · clear hi;intro o ho lz fz w' A hJ hli ha hA K hK
     obtain ⟨hv,hd,hq,hp⟩:=hJ.now (i:=6) (by omega) hli
     obtain rfl:=Option.some.inj ho
     clear ho
     have hB:=hq.below
     have gg11:=sj hA 11 (hv (5,11,(.pointer (some ⟨w.heap.size,2,none⟩))) (by simp) (ha 5 (by decide)))
     rw [if_pos (by rfl)]
     obtain ⟨k0,k1,k2,-⟩:=HC.out w' hB
     have hF:=hK (.slice a3 n3 c3) w' (LastJ.step hJ 6 (by omega) hli (by decide) ⟨hv.step 6 12 _ (by simp),hd.step 6 12 _ hli (by simp [allR]),hq.still 6 12 _ (Below.refl _ _) (by simp),hp.still (fun _ _ _ hb h=>TrAt.keep h hb) 6 12 _ (by decide) (by decide) (Below.refl _ _) (by simp)⟩)
     clear hv hp hq ha hK hA hli hd hB hJ;go_simp;exact hF
   · clear hi;intro o ho lz fz w' A hJ hli ha hA K hK
     obtain ⟨hv,hd,hq,hp⟩:=hJ.now (i:=7) (by omega) hli
     obtain rfl:=Option.some.inj ho
     clear ho
     have hB:=hq.below
     have g10:A.tmps.getD 10 undef=fz 10:=si hA 10 rfl
     have g12:=si hA 12 (hv (6,12,(.slice a3 n3 c3)) (by simp) (ha 6 (by decide)))
     have gg10:=slot_get g10
     have gg12:=slot_get g12
     rw [if_pos (by rfl)]
     have ha0:=ha 4 (by decide)
     have o0:=hq.at (t:=⟨4,some 7,10,3,1,0,[]⟩) (by simp) ha0 (by simpa using hli)
     refine wp_append_copy (.tmp 10) (.tmp 12) 25 rfl w0.heap.size 3 (.int .i64 0) 1 8 Tryz.underlying25 infoIntT rfl (by decide) (by rw [slot_eval g10];exact o0) a3 n3 c3 (by rw [slot_eval g12]) HN3.out (t.bef.map (Value.int .i64)) HL3.out (HW3.out w' hB) (ints_oneT _) hm3 (by decide) hB.size ?_
     intro v9 w9 ho9 hg9 hl9
     rw [slot_eval g10] at hg9 hl9
     exact hK v9 w9 (LastJ.step hJ 7 (by omega) hli (by decide) ⟨hv.step 7 13 _ (by simp),hd.step 7 13 _ hli (by simp [allR]),hq.repl 7 13 v9 ⟨4,some 7,10,3,1,0,[]⟩ (by simp) (by simp [RowT.live,ha0,hli]) hg9 hl9 (by simp;exact ho9),hp.repl (fun _ _ _ hb h=>TrAt.keep h hb) hq 7 13 v9 (by decide) (by decide) ⟨4,some 7,10,3,1,0,[]⟩ (by simp) (by simp [RowT.live,ha0,hli]) hg9 hl9 (by simp;exact ho9)⟩)
   · clear hi;intro o ho lz fz w' A hJ hli ha hA K hK
     obtain ⟨hv,hd,hq,hp⟩:=hJ.now (i:=8) (by omega) hli
     obtain rfl:=Option.some.inj ho
     clear ho
     have hB:=hq.below
     have g9:A.tmps.getD 9 undef=fz 9:=si hA 9 rfl
     have g13:A.tmps.getD 13 undef=fz 13:=si hA 13 rfl
     have gg9:=slot_get g9
     have gg13:=slot_get g13
     rw [if_pos (by rfl)]
     have hF:=hK (.agg #[fz 9,.slice none 0 0,fz 13]) w' (LastJ.step hJ 8 (by omega) hli (by decide) ⟨hv.step 8 14 _ (by simp),hd.step 8 14 _ hli (by simp [allR,ha 3 (by decide),ha 7 (by decide)]),hq.still 8 14 _ (Below.refl _ _) (by simp),hp.still (fun _ _ _ hb h=>TrAt.keep h hb) 8 14 _ (by decide) (by decide) (Below.refl _ _) (by simp)⟩)
     have o9:=hq.at (t:=⟨3,none,9,142,2,n1,(flatE t.base)⟩) (by simp) (ha 3 (by decide)) (by rfl)
     obtain ⟨p9,q9,k9,e9⟩:=slice_form o9
     simp only at e9
     rw [e9] at g9 gg9 hF
     clear o9
     have o13:=hq.at (t:=⟨7,none,13,3,1,n3,(t.bef.map (Value.int .i64))⟩) (by simp) (ha 7 (by decide)) (by rfl)
     obtain ⟨p13,q13,k13,e13⟩:=slice_form o13
     simp only at e13
     rw [e13] at g13 gg13 hF
     clear o13
     clear hv hp hq ha hK hA hli hd hB hJ;go_simp;exact hF
   · clear hi;intro o ho lz fz w' A hJ hli ha hA K hK
     obtain ⟨hv,hd,hq,hp⟩:=hJ.now (i:=9) (by omega) hli
     obtain rfl:=Option.some.inj ho
     clear ho
     have hB:=hq.below
     rw [if_pos (by rfl)]
     go_simp
     exact hK _ _ (LastJ.step hJ 9 (by omega) hli (by decide) ⟨hv.step 9 3 _ (by simp),hd.step 9 3 _ hli (by simp [allR]),hq.still 9 3 _ ((Below.refl w'.heap.size w').alloc (Nat.le_refl _) _) (by simp),PtrJ.make hq _ (trAt_new _ _ _ _ _) (by simp)⟩)
   · clear hi;intro o ho lz fz w' A hJ hli ha hA K hK
     obtain ⟨hv,hd,hq,hp⟩:=hJ.now (i:=10) (by omega) hli
     obtain rfl:=Option.some.inj ho
     clear ho
     have hB:=hq.below
     have g3:A.tmps.getD 3 undef=fz 3:=si hA 3 rfl
     have hd14:=(hd (⟨8,14,[(3,9),(7,13)],fun f=>.agg #[f 9,.slice none 0 0,f 13],fun f g h=>by simp at h;simp [h]⟩:DepT) (by simp) (ha 8 (by decide))).2
     simp only at hd14
     have g14:A.tmps.getD 14 undef=fz 14:=si hA 14 rfl
     have gg3:=slot_get g3
     have gg14:=slot_get g14
     rw [if_pos (by rfl)]
     have hall:∀ k,k < 10→lz k=true:=fun k hk=>ha k (by have hk2:k < 10:=hk;rcases (by omega:k=0∨k=1∨k=2∨k=3∨k=4∨k=5∨k=6∨k=7∨k=8∨k=9) with rfl | rfl | rfl | rfl | rfl | rfl | rfl | rfl | rfl | rfl <;> simp [aftersOf,Region.binds])
     have hR:=hq.list [(⟨3,none,9,142,2,n1,(flatE t.base)⟩:RowT),(⟨7,none,13,3,1,n3,(t.bef.map (Value.int .i64))⟩:RowT)] (by simp [RowT.live,hall 3 (by decide),hall 7 (by decide)]) (by simp)
     simp only [List.map_cons,List.map_nil,RowT.row] at hR
     obtain ⟨b,hb1,hb2,hb3,hb4,hb5⟩:=hp (hall 9 (by decide))
     have off9:=hb5 (⟨3,none,9,142,2,n1,(flatE t.base)⟩:RowT) (by simp) (by simp [RowT.live,hall 3 (by decide)])
     have off13:=hb5 (⟨7,none,13,3,1,n3,(t.bef.map (Value.int .i64))⟩:RowT) (by simp) (by simp [RowT.live,hall 7 (by decide)])
     simp only at off9 off13
     obtain ⟨p9,q9,k9,e9⟩:=slice_form hR.head
     simp only at e9
     obtain ⟨p13,q13,k13,e13⟩:=slice_form hR.tail.head
     simp only at e13
     rw [e9,e13] at hd14 hR
     rw [e9] at off9
     rw [e13] at off13
     rw [hd14] at g14 gg14
     rw [hb1] at g3 gg3
     have hb4':=hb4
     obtain ⟨z0,z1,z2,f0,f1,f2⟩:=hb4
     clear hd14
     have hF:=hK undef _ (LastJ.last (fun i hi hne=>hall i (by omega)) ⟨w',_,_,b,by simpa using hb1,hb2,hb3,hR,off9,off13,hB,hb4',rfl⟩)
     clear hv hp hq ha hK hA hli hd hB hJ hall hR hb5 off9 off13 hb1
     unfold set3b at hF;go_simp;exact hF
 · intro lz fz w5 hall hJ
   have hfin:=(hJ.2 (hall 10 (by decide))).2
   simp only [mixF,List.contains_cons,List.contains_nil]
   go_simp
   obtain ⟨w1,u1,u3,b,hf3,hb1,hb2,hR,o1,o3,hbW,hE,rfl⟩:=hfin
   obtain ⟨p1,q1,k1,e1⟩:=slice_form hR.head
   obtain ⟨p3,q3,k3,e3⟩:=slice_form hR.tail.head
   simp only at e1 e3
   have hEg:=hE.set3b u1 (.slice none 0 0) u3
   have ht5:=set3b_turn w1 b u1 (.slice none 0 0) u3
   have hO:=hR.keep (w':=set3b w1 b u1 (.slice none 0 0) u3) fun r hr q hq=>(by
    have hne:q≠b:=fun e=>(by
     rw [e] at hq
     simp only [List.mem_cons,List.not_mem_nil,or_false] at hr
     rcases hr with hr | hr
     · rw [hr] at hq;exact o1 hq
     · rw [hr] at hq;exact o3 hq)
    exact ht5.block q (hR.ge hr hq).2.2 (by omega))
   have hB5:Below w0.heap.size w0 (set3b w1 b u1 (.slice none 0 0) u3):=ht5.below hbW hb1 hbW.size
   rw [hf3]
   obtain ⟨W5,hW5⟩:∃ W,W=set3b w1 b u1 (.slice none 0 0) u3:=⟨_,rfl⟩
   have hs5:W5.heap.size=w1.heap.size:=by rw [hW5,set3b_size]
   rw [← hW5] at hEg hO hB5 ⊢
   obtain rfl:t.base.length=n1:=by have:=HL1.out;rw [flatE_len] at this;omega
   obtain rfl:t.bef.length=n3:=by have:=HL3.out;rw [List.length_map] at this;omega
   have hown0:OwnR W5 w0.heap.size W5.heap.size (treRs tTre u1 (.slice none 0 0) u3 ⟨t.base,t.blocks.take 0,t.bef⟩ []):=by
    have h0:=(hO.addNil ⟨.slice none 0 0,37,6,0,bksCs [] []⟩ ⟨rfl,rfl,rfl⟩).perm (List.perm_middle (l₁:=[_,_])).symm
    rw [List.take_zero]
    exact OwnR.mono h0 (Nat.le_refl _) (by rw [hs5];exact Nat.le_refl _)
   have hoff0:∀ r∈treRs tTre u1 (.slice none 0 0) u3 ⟨t.base,t.blocks.take 0,t.bef⟩ [],blk r.v≠some b:=by
    intro r hr hq
    rw [List.take_zero] at hr
    simp only [treRs,bksAll,bksRs,List.zip_nil_left,List.map_nil,List.mem_cons,List.not_mem_nil,or_false] at hr
    rcases hr with hr | hr | hr
    · rw [hr] at hq;exact o1 hq
    · rw [hr] at hq;exact o3 hq
    · rw [hr] at hq;cases hq
   have hcp0:TrBx W5 w0.heap.size W5.heap.size b tTre u1 (.slice none 0 0) u3 ⟨t.base,t.blocks.take 0,t.bef⟩ []:=⟨hEg,hown0,rfl,treWf_take HWF.out 0,hb1,hEg.lt,Nat.le_refl _,hoff0⟩
   have HBW5:=Lib.hid hB5
   clear hR hE hown0 hoff0 hO hB5 hEg hb2 hs5 hW5 hbW o1 o3 ht5
   subst e1 e3
   clear hJ hall HW1 HW3 HL1 HL3 HN1 HN3 hf3
   have H2W:=Lib.hid h2w
   clear h2w
   have hm2:n2≤4000000:=by rw [← HL2.out];exact HWF.out.blocks.len
   go_wp2_with fail
   go_loopw [4] (fun i wr=>∃ (k:Nat) (u2:Value) (ts:List Value),i = .int .i64 k∧k≤n2∧TrBx wr w0.heap.size wr.heap.size b tTre (.slice p1 q1 k1) u2 (.slice p3 q3 k3) ⟨t.base,t.blocks.take k,t.bef⟩ ts∧Below w0.heap.size w0 wr) (fun i _=>n2 - (intOf i).toNat)
   case atStart=>exact ⟨0,_,_,rfl,Nat.zero_le _,hcp0,HBW5.out⟩
   case round =>
    clear hcp0 HBW5
    obtain ⟨k,u2,ts,rfl,hk,hcp,hbw⟩:=hrel
    have HBW:=Lib.hid hbw
    obtain ⟨k0',k1',k2',-⟩:=HC.out wr hbw
    by_cases hlt:k < n2
    · obtain ⟨bs,os,rfl,hbk⟩:=(H2W.out.below hbw).at k hlt
      have hkl:k < t.blocks.length:=by rw [HL2.out];exact hlt
      have hswf:=HWF.out.blocks.all _ (getD_memBk t.blocks k hkl)
      obtain ⟨x,hx⟩:∃ x,x=t.blocks.getD k noBlk:=⟨_,rfl⟩
      rw [← hx] at hbk hswf
      have HX:=Lib.hid hx
      clear hx
      obtain ⟨s0,s1,s2,⟨v3',s3,aw,nw,cw,rfl,hrw,hzw,hcw⟩,s4,s5⟩:=hbk
      have hu2:∃ p2 q2 k2,u2 = .slice p2 q2 k2:=slice_form (hcp.own.own _ (treRs_swap.mem_iff.2 List.mem_cons_self))
      obtain ⟨p2,q2,k2,rfl⟩:=hu2
      obtain ⟨z0,z1,z2,zf0,zf1,zf2⟩:=hcp.box
      go_upto_region 6 with (fail)
      generalize hw5:World.alloc _ _=Wr
      have hb5:Below wr.heap.size wr Wr:=by rw [← hw5];exact (Below.refl _ _).alloc (Nat.le_refl _) _
      have hA5:BkAt Wr wr.heap.size (.int .i64 x.bef) (.int .i64 x.hgt) (.int .i64 x.view) (.slice aw nw cw) (.int .i64 x.root) (.int .i64 x.effs):=by rw [← hw5];exact bkAt_new wr _ _ _ _ _ _ _
      have HRW:=Lib.hid (hrw.below hb5)
      have HCP:=Lib.hid (hcp.below hb5)
      have HS:=Lib.hid hb5.size
      have HBR:=Lib.hid (hbw.trans (hb5.mono hbw.size))
      obtain ⟨Zb,hZb⟩:∃ Z,Z=wr.heap.size:=⟨_,rfl⟩
      have HZB:Hid (Zb=wr.heap.size):=Lib.hid hZb
      have HZL:Hid (Zb < Wr.heap.size):=Lib.hid (by rw [hZb];exact hA5.lt)
      rw [← hZb] at hA5 ⊢
      have HNW:Hid (aw=none→nw=0∧cw=0):=Lib.hid (fun he=>by
       refine ⟨?_,hzw he⟩
       rcases Nat.eq_zero_or_pos nw with h | h
       · exact h
       · obtain ⟨b1,o1,h3,_⟩:=hrw.2.2.1 h
         rw [he] at h3;cases h3)
      have HLW:Hid ((flatA x.acts).length=nw*4):=Lib.hid (by rw [flatA_len,hrw.1])
      have hnw:nw≤4000000:=by rw [← hrw.1];exact hswf.len
      obtain rfl:=hrw.1
      have HSW:=Lib.hid hswf
      have HA5:=Lib.hid hA5
      clear hw5 hb5 hcp hbw hrw hzw hcw hswf s0 s1 s2 s3 s4 s5 z0 z1 z2 zf0 zf1 zf2 k0' k1' k2' hZb
      obtain ⟨y0,y1,y2,y3,y4,y5,g0,g1,g2,g3,g4,g5⟩:=hA5
      have ho:=own_lit (w:=Wr) (B:=Wr.heap.size) 113 4 #[] 0 (Nat.le_refl _) (by unfold maxLen;omega) rfl
      have hb6:=(Below.refl Wr.heap.size Wr).alloc (Nat.le_refl _) (.cells #[] 113)
      have HR6:=Lib.hid (HRW.out.below hb6)
      obtain ⟨-,-,-,yl3,-,-,-,-,-,-,-,-⟩:=HA5.out.below hb6
      go_upto_region 7 with (first | (at_builtin;refine wpList_append_rows rfl _ _ 35 rfl Wr.heap.size 113 (.agg #[.int .i64 0,.int .i64 0,.int .i64 0,.int .i64 0]) 4 32 Tryz.underlying35 infoActT rfl (by decide) _ 0 [] (flatA x.acts) (by rfl) ho aw x.acts.length cw (by rfl) HNW.out HLW.out HR6.out.news (flatA_one _) (by omega) (by decide) (by simp) ?_;intro v6 w6 ho6 hg6;have hb7:=hb6.grown hg6 (by simp) (fun q hq=>(ho.1.lt q hq).1);obtain ⟨-,-,-,yy3,-,-,-,-,-,gg3,-,-⟩:=HA5.out.below hb7;obtain ⟨e1,e2,e3,he⟩:=slice_form ho6.1;rw [he];rw [he] at ho6))
      rw [Nat.zero_add,List.nil_append] at ho6
      obtain ⟨w7,hw7⟩:∃ W,W=w6.setCell ⟨Zb,3,none⟩ (.slice e1 e2 e3):=⟨_,rfl⟩
      have hA7:BkAt w7 Zb (.int .i64 x.bef) (.int .i64 x.hgt) (.int .i64 x.view) (.slice e1 e2 e3) (.int .i64 x.root) (.int .i64 x.effs):=by rw [hw7];exact (HA5.out.below hb7).put3' _
      have hX7:w7.ownsRow Wr.heap.size 113 4 (.slice e1 e2 e3) x.acts.length (flatA x.acts):=by
       rw [hw7]
       exact owns_keep ho6.1 (fun q hq=>Below.heap_setCell _ _ _ _ (by rw [owns_blk ho6.1] at hq;have:=(ho6.1.lt q hq).1;have:=HZL.out;simp;omega))
      have hT7:TrBx w7 w0.heap.size wr.heap.size b tTre (.slice p1 q1 k1) (.slice p2 q2 k2) (.slice p3 q3 k3) ⟨t.base,t.blocks.take k,t.bef⟩ ts:=by
       rw [hw7];exact (HCP.out.below hb7).set (.inr (by rw [HZB.out];exact Nat.le_refl _))
      have hX7':w7.ownsRow wr.heap.size 113 4 (.slice e1 e2 e3) x.acts.length (flatA x.acts):=owns_mono hX7 HS.out
      have hB7:Below w0.heap.size w0 w7:=by rw [hw7];exact (HBR.out.trans (hb7.mono HBR.out.size)).setCell (by have h1:=HBW.out.size;have h2:=HZB.out;show w0.heap.size≤Zb;omega) _
      have HT7:=Lib.hid hT7
      have HX7:=Lib.hid hX7'
      have HB7:=Lib.hid hB7
      have ho7:=hT7.own.own _ (treRs_swap.mem_iff.2 List.mem_cons_self)
      simp only [List.length_take,Nat.min_eq_left (Nat.le_of_lt hkl)] at ho7
      have HO7:=Lib.hid ho7
      obtain ⟨z0,z1,z2,zf0,zf1,zf2⟩:=hT7.box
      rw [← hw7]
      clear hw7 hT7 hX7 hX7' hB7 hb6 hb7 hg6 ho ho6 he y0 y1 y2 y3 y4 y5 g0 g1 g2 g3 g4 g5 yy3 gg3 yl3 HCP HBR HRW HR6 HA5 ho7
      obtain ⟨y0,y1,y2,y3,y4,y5,-⟩:=hA7
      have hbs7:w0.heap.size≤w7.heap.size:=HB7.out.size
      go_wp2_with (first | (at_builtin;refine wpList_append_lit (W:=w7) rfl _ _ 24 rfl w0.heap.size 37 37 (.agg #[.int .i64 0,.int .i64 0,.int .i64 0,.slice none 0 0,.int .i64 0,.int .i64 0]) 6 64 1 Tryz.underlying24 infoBlkT rfl (by decide) (.slice p2 q2 k2) k _ [.int .i64 x.bef,.int .i64 x.hgt,.int .i64 x.view,.slice e1 e2 e3,.int .i64 x.root,.int .i64 x.effs] (by rfl) HO7.out (by simp [Act.eval]) rfl ?c11 (by decide) ?c21 (by decide) ?c31 ?_))
      case c11=>intro u hu;simp at hu;rcases hu with rfl | rfl | rfl | rfl | rfl | rfl <;> rfl
      case c21=>show k+1≤_;omega
      case c31=>exact hbs7
      intro v10 w10 ho10 hnn10 hg10 hat10
      obtain ⟨ra,rn,rc,rfl⟩:=slice_form ho10
      obtain ⟨⟨j0,j1,j2,jf0,jf1,jf2⟩,hN⟩:=HT7.out.putBlock (b:=x) HX7.out hg10 hat10 (by simp only [List.length_take,Nat.min_eq_left (Nat.le_of_lt hkl)];exact ho10) HSW.out (by simp only [List.length_take];omega)
      have hB10:Below w0.heap.size w0 (w10.setCell ⟨b,1,none⟩ (.slice ra rn rc)) :=
       ((HB7.out.alloc hbs7 _).grown hg10 (by rw [World.size_alloc];omega) (fun q hq=>(HO7.out.lt q hq).1)).setCell (by exact hb1) _
      have HN:=Lib.hid hN
      have HB10:=Lib.hid hB10
      clear hN hB10 hg10 hat10 ho10 hnn10 z0 z1 z2 zf0 zf1 zf2 y0 y1 y2 y3 y4 y5 HT7 HX7 HB7 HO7
      go_wp2
      go_roundw
      case rel =>
       refine ⟨k+1,.slice ra rn rc,ts++[.slice e1 e2 e3],by go_num,hlt,?_,HB10.out⟩
       have e9:Tre.mid ⟨t.base,t.blocks.take k,t.bef⟩ x=⟨t.base,t.blocks.take (k+1),t.bef⟩:=by
        unfold Tre.mid;simp only;rw [HX.out,take_succBk _ hkl]
       have:=HN.out.top
       rw [e9] at this
       exact this
      case measure=>simp [intOf];omega
    · obtain rfl:n2=k:=by omega
      obtain ⟨p2,q2,k2,rfl⟩:∃ p2 q2 k2,u2 = .slice p2 q2 k2:=slice_form (hcp.own.own _ (treRs_swap.mem_iff.2 List.mem_cons_self))
      obtain ⟨y0,y1,y2,-⟩:=hcp.box
      have hZ:=HZ2.out wr hbw
      have hbww:=HB0.out.trans (hbw.mono HB0.out.size)
      have HE:=Lib.hid (hZ.set3b (.slice p1 q1 k1) (.slice p2 q2 k2) (.slice p3 q3 k3))
      have htt:=set3b_turn wr (w.heap.size+1) (.slice p1 q1 k1) (.slice p2 q2 k2) (.slice p3 q3 k3)
      have HBF:Hid (Below w.heap.size w (set3b wr (w.heap.size+1) (.slice p1 q1 k1) (.slice p2 q2 k2) (.slice p3 q3 k3))):=Lib.hid (htt.below hbww (Nat.le_succ _) hbww.size)
      have HO:Hid (TreOwn (set3b wr (w.heap.size+1) (.slice p1 q1 k1) (.slice p2 q2 k2) (.slice p3 q3 k3)) w.heap.size (set3b wr (w.heap.size+1) (.slice p1 q1 k1) (.slice p2 q2 k2) (.slice p3 q3 k3)).heap.size tTre (.slice p1 q1 k1) (.slice p2 q2 k2) (.slice p3 q3 k3) t ts):=Lib.hid (by
       have e5:t.blocks.take n2=t.blocks:=List.take_of_length_le (by rw [HL2.out];exact Nat.le_refl _)
       have ho:=hcp.tre
       rw [e5] at ho
       exact (ho.turn htt (.inr (.inl (by omega)))).mono (by omega) (by rw [set3b_size];exact Nat.le_refl _))
      unfold set3b at HE HBF HO
      obtain ⟨x0,x1,x2,f0,f1,f2⟩:=hZ
      clear hcp hbww hbw htt k0' k2' HBW
      go_wp2_with fail
      refine bodyPost_ret (results_tre Tryz.results95 _ (by rfl) HE.out) rfl ⟨_,_,_,_,rfl,HO.out,HBF.out⟩
theorem putT_no {t:Tre} {b:Blk} (h:treB t=false):putT t b=(noTre,false):=by unfold putT;rw [h];rfl
theorem putT_yes {t:Tre} {b:Blk} (h:treB t=true) (h2:treB (t.add b)=true):putT t b=(t.add b,true):=by unfold putT;rw [h,h2];rfl
theorem putT_not {t:Tre} {b:Blk} (h:treB t=true) (h2:treB (t.add b)=false):putT t b=(t,false):=by unfold putT;rw [h,h2];rfl
theorem trRd_form4 {w:World} {v1 v2 v3:Value} {t:Tre} (h:TreRd w v1 v2 v3 t):∃ b1 m1 d1 b2 m2 d2 b3 m3 d3,v1 = .slice b1 m1 d1∧v2 = .slice b2 m2 d2∧v3 = .slice b3 m3 d3:=by
 obtain ⟨⟨b1,m1,d1,rfl,-⟩,⟨b2,m2,d2,rfl,-⟩,b3,m3,d3,rfl,-⟩:=h
 exact ⟨b1,m1,d1,b2,m2,d2,b3,m3,d3,rfl,rfl,rfl⟩
set_option maxRecDepth 100000 in
set_option maxHeartbeats 8000000 in
theorem putBlock_spec (v1 v2 v3:Value) (t:Tre) (b:Blk) (a:Option Addr) (n c:Nat) (w:World) (h:TreRd w v1 v2 v3 t) (hr:RowA w a n b.acts) (hz:a=none→c=0) (hwf:WfB b) (hn:n≤4000000) :
  Calls Tryz.prog 30 #[.agg #[v1,v2,v3],.agg #[.int .i64 b.bef,.int .i64 b.hgt,.int .i64 b.view,.slice a n c,.int .i64 b.root,.int .i64 b.effs]] w (NewTreB w tTre (putT t b).1 (putT t b).2):=by
 have hlo:0 < n→∀ p o,a=some ⟨p,o,none⟩→p < w.heap.size:=fun h0 p o e=>by
  obtain ⟨b',o',e',hcc⟩:=hr.2.2.1 h0
  rw [e'] at e;cases e
  exact World.block_lt_of_cell? w _ (hcc 0 h0).1
 have HLO:=Lib.hid hlo
 have hrd:=h
 obtain ⟨⟨a1,n1,c1,rfl,-⟩,⟨a2,n2,c2,rfl,-⟩,a3,n3,c3,rfl,-⟩:=h
 have hb1:=(Below.refl w.heap.size w).alloc (Nat.le_refl _) (.cells #[.slice a1 n1 c1,.slice a2 n2 c2,.slice a3 n3 c3] 27)
 have hA1:=trAt_new w 27 (.slice a1 n1 c1) (.slice a2 n2 c2) (.slice a3 n3 c3)
 obtain ⟨U1,hU1⟩:∃ U,U=w.alloc (.cells #[.slice a1 n1 c1,.slice a2 n2 c2,.slice a3 n3 c3] 27):=⟨_,rfl⟩
 have hz1:U1.heap.size=w.heap.size+1:=by rw [hU1];simp
 rw [← hU1] at hb1 hA1
 have hb2:=(Below.refl U1.heap.size U1).alloc (Nat.le_refl _) (.cells #[.int .i64 b.bef,.int .i64 b.hgt,.int .i64 b.view,.slice a n c,.int .i64 b.root,.int .i64 b.effs] 37)
 have hA2:=bkAt_new U1 37 (.int .i64 b.bef) (.int .i64 b.hgt) (.int .i64 b.view) (.slice a n c) (.int .i64 b.root) (.int .i64 b.effs)
 obtain ⟨U2,hU2⟩:∃ U,U=U1.alloc (.cells #[.int .i64 b.bef,.int .i64 b.hgt,.int .i64 b.view,.slice a n c,.int .i64 b.root,.int .i64 b.effs] 37):=⟨_,rfl⟩
 have hz2:U2.heap.size=w.heap.size+1+1:=by rw [hU2];simp [hz1]
 rw [← hU2] at hb2 hA2
 have hb3:=(Below.refl U2.heap.size U2).alloc (Nat.le_refl _) (.cells #[.slice none 0 0,.slice none 0 0,.slice none 0 0] 27)
 have hA3:=trAt_new U2 27 (.slice none 0 0) (.slice none 0 0) (.slice none 0 0)
 obtain ⟨U3,hU3⟩:∃ U,U=U2.alloc (.cells #[.slice none 0 0,.slice none 0 0,.slice none 0 0] 27):=⟨_,rfl⟩
 have hz3:U3.heap.size=w.heap.size+3:=by rw [hU3];simp [hz2]
 rw [← hU3] at hb3 hA3
 rw [hz1] at hA2
 rw [hz2] at hA3
 have hbA:=hb1.trans ((hb2.mono hb1.size).trans (hb3.mono (Nat.le_trans hb1.size hb2.size)))
 have HW1:Hid (U3=((w.alloc (.cells #[.slice a1 n1 c1,.slice a2 n2 c2,.slice a3 n3 c3] 27)).alloc (.cells #[.int .i64 b.bef,.int .i64 b.hgt,.int .i64 b.view,.slice a n c,.int .i64 b.root,.int .i64 b.effs] 37)).alloc (.cells #[.slice none 0 0,.slice none 0 0,.slice none 0 0] 27)):=Lib.hid (by rw [hU3,hU2,hU1])
 have hK1:=(hA1.below hb2).below hb3
 have hK2:=hA2.below hb3
 have HK:=Lib.hid (fun (W:World) (hb:Below U3.heap.size U3 W)=>(⟨hK1.below hb,hK2.below hb,hA3.below hb,hbA.trans (hb.mono hbA.size)⟩:TrAt W w.heap.size (.slice a1 n1 c1) (.slice a2 n2 c2) (.slice a3 n3 c3)∧BkAt W (w.heap.size+1) (.int .i64 b.bef) (.int .i64 b.hgt) (.int .i64 b.view) (.slice a n c) (.int .i64 b.root) (.int .i64 b.effs)∧TrAt W (w.heap.size+1+1) (.slice none 0 0) (.slice none 0 0) (.slice none 0 0)∧Below w.heap.size w W))
 have HRD:=Lib.hid (hrd.below hbA)
 have HRW:=Lib.hid (fun (W:World) (hb:Below w.heap.size w W)=>hrd.below hb)
 have HRA:=Lib.hid (hr.below hbA)
 have HZ3:=Lib.hid hz3
 clear hrd hr hb1 hb2 hb3 hA1 hA2 hA3 hU1 hU2 hU3 hz1 hz2 hz3 hbA hK1 hK2 hlo
 go_enter Tryz.func30,Tryz.ntmps30
 go_upto_region 1 with (fail)
 rw [← HW1.out]
 clear HW1
 obtain ⟨⟨x0,x1,x2,-⟩,-,-,-⟩:=HK.out U3 (Below.refl _ _)
 go_wp2_with fail
 refine (blockTreeValid_spec _ _ _ t _ HRD.out).mono ?_;rintro e w2 ⟨rfl,hb2⟩
 have HB2:=Lib.hid hb2
 have HRA2:=Lib.hid (HRA.out.below hb2)
 have HRD2:=Lib.hid (HRD.out.below hb2)
 clear x0 x1 x2
 cases ht:treB t with
 | false =>
  have HE:=Lib.hid (putT_no (b:=b) ht)
  obtain ⟨-,-,hA2,hB2⟩:=HK.out w2 hb2
  have HF:=Lib.hid (hA2.set3b (.slice none 0 0) (.slice none 0 0) (.slice none 0 0))
  have HBF:=Lib.hid ((set3b_turn w2 (w.heap.size+1+1) (.slice none 0 0) (.slice none 0 0) (.slice none 0 0)).below hB2 (by omega) hB2.size)
  unfold set3b at HF HBF
  obtain ⟨c0,c1,c2,f0,f1,f2⟩:=hA2
  clear hb2 hB2 ht
  go_wp2_with fail
  refine bodyPost_ret (results_treB Tryz.results30 _ (by rfl) HF.out (.bool false) (by rfl)) rfl ?_
  rw [HE.out]
  exact ⟨_,_,_,[],rfl,treOwn_no _ _ _ _,HBF.out⟩
 | true =>
  have HT:=Lib.hid ht
  have HTW:=Lib.hid (treWf_ok HRD2.out ht)
  obtain ⟨⟨x0,x1,x2,-⟩,-,-,-⟩:=HK.out w2 hb2
  have hs2:Hid (U3.heap.size≤w2.heap.size):=Lib.hid hb2.size
  clear ht hb2
  go_wp2_with fail
  refine (l13Copy_spec _ _ _ t _ HRD2.out HTW.out).mono ?_;rintro e w3 ⟨u1,u2,u3,ts,rfl,hown3,hb3⟩
  obtain ⟨p1,q1,k1,p2,q2,k2,p3,q3,k3,rfl,rfl,rfl⟩:=trRd_form4 hown3.rd
  have HB3:=Lib.hid (HB2.out.trans (hb3.mono HB2.out.size))
  have HRA3:=Lib.hid (HRA2.out.below hb3)
  have HRD3:=Lib.hid (HRD2.out.below hb3)
  have HO3:=Lib.hid hown3
  have HS3:=Lib.hid hb3.size
  clear x0 x1 x2 hb3 hown3
  go_upto_region 4 with (fail)
  generalize hw4:World.alloc _ _=w4
  have hb4:Below w3.heap.size w3 w4:=by rw [← hw4];exact (Below.refl _ _).alloc (Nat.le_refl _) _
  have hT4:TrBx w4 w2.heap.size w4.heap.size w3.heap.size tTre (.slice p1 q1 k1) (.slice p2 q2 k2) (.slice p3 q3 k3) t ts:=by rw [← hw4];exact (trBx_new HO3.out HS3.out _).top
  obtain ⟨Zx,hZx⟩:∃ Z,Z=w3.heap.size:=⟨_,rfl⟩
  rw [← hZx] at hT4 ⊢
  have HT4:=Lib.hid hT4
  have HB4:=Lib.hid (HB3.out.trans (hb4.mono HB3.out.size))
  have HRA4:=Lib.hid (HRA3.out.below hb4)
  have HRD4:=Lib.hid (HRD3.out.below hb4)
  clear hw4 hb4 hT4 hZx HO3 HB3 HRA3 HRD3 HRA2
  obtain ⟨-,⟨y0,y1,y2,y3,y4,y5,g0,g1,g2,g3,g4,g5⟩,-,-⟩:=HK.out w4 HB4.out
  have HNW:Hid (a=none→n=0∧c=0):=Lib.hid (fun he=>by
   refine ⟨?_,hz he⟩
   rcases Nat.eq_zero_or_pos n with h | h
   · exact h
   · obtain ⟨b1,o1,h3,_⟩:=HRA4.out.2.2.1 h
     rw [he] at h3;cases h3)
  have HLW:Hid ((flatA b.acts).length=n*4):=Lib.hid (by rw [flatA_len,HRA4.out.1])
  have ho:=own_lit (w:=w4) (B:=w4.heap.size) 113 4 #[] 0 (Nat.le_refl _) (by unfold maxLen;omega) rfl
  have hb5:=(Below.refl w4.heap.size w4).alloc (Nat.le_refl _) (.cells #[] 113)
  have HR5:=Lib.hid (HRA4.out.below hb5)
  obtain ⟨-,⟨-,-,-,yl3,-⟩,-,-⟩:=HK.out _ (HB4.out.trans (hb5.mono HB4.out.size))
  go_upto_region 5 with (first | (at_builtin;refine wpList_append_rows rfl _ _ 35 rfl w4.heap.size 113 (.agg #[.int .i64 0,.int .i64 0,.int .i64 0,.int .i64 0]) 4 32 Tryz.underlying35 infoActT rfl (by decide) _ 0 [] (flatA b.acts) (by rfl) ho a n c (by rfl) HNW.out HLW.out HR5.out.news (flatA_one _) (by omega) (by decide) (by simp) ?_;intro v6 w6 ho6 hg6;have hb6:=hb5.grown hg6 (by simp) (fun q hq=>(ho.1.lt q hq).1);obtain ⟨-,⟨-,-,-,yy3,-,-,-,-,-,gg3,-,-⟩,-,-⟩:=HK.out w6 (HB4.out.trans (hb6.mono HB4.out.size));obtain ⟨e1,e2,e3,he⟩:=slice_form ho6.1;rw [he];rw [he] at ho6))
  rw [Nat.zero_add,List.nil_append] at ho6
  have hnb:n=b.acts.length:=HRA4.out.1.symm
  rw [hnb] at ho6
  obtain ⟨w7,hw7⟩:∃ W,W=w6.setCell ⟨w.heap.size+1,3,none⟩ (.slice e1 e2 e3):=⟨_,rfl⟩
  have hZB:w.heap.size+1 < U3.heap.size:=by have:=HZ3.out;omega
  have hUw:U3.heap.size≤w4.heap.size:=HB4.out.size
  have hK6:=HK.out w6 (HB4.out.trans (hb6.mono HB4.out.size))
  have hA7:BkAt w7 (w.heap.size+1) (.int .i64 b.bef) (.int .i64 b.hgt) (.int .i64 b.view) (.slice e1 e2 e3) (.int .i64 b.root) (.int .i64 b.effs):=by rw [hw7];exact hK6.2.1.put3' _
  have hX7:w7.ownsRow w4.heap.size 113 4 (.slice e1 e2 e3) b.acts.length (flatA b.acts):=by
   rw [hw7]
   exact owns_keep ho6.1 (fun q hq=>Below.heap_setCell _ _ _ _ (by rw [owns_blk ho6.1] at hq;have:=(ho6.1.lt q hq).1;simp;omega))
  have hT7:TrBx w7 w2.heap.size w4.heap.size Zx tTre (.slice p1 q1 k1) (.slice p2 q2 k2) (.slice p3 q3 k3) t ts:=by
   rw [hw7];exact (HT4.out.below hb6).set (.inl (by have:=hs2.out;omega))
  have HKK:Hid (∀ W,Below w7.heap.size w7 W→TrAt W w.heap.size (.slice a1 n1 c1) (.slice a2 n2 c2) (.slice a3 n3 c3)∧BkAt W (w.heap.size+1) (.int .i64 b.bef) (.int .i64 b.hgt) (.int .i64 b.view) (.slice e1 e2 e3) (.int .i64 b.root) (.int .i64 b.effs)∧TrAt W (w.heap.size+1+1) (.slice none 0 0) (.slice none 0 0) (.slice none 0 0)∧TreRd W (.slice a1 n1 c1) (.slice a2 n2 c2) (.slice a3 n3 c3) t∧Below w.heap.size w W):=Lib.hid (fun W hb=>by
   have hf:∀ q,q≠w.heap.size+1→w7.heap[q]? = w6.heap[q]?:=fun q hq=>by rw [hw7];exact Below.heap_setCell _ _ _ _ (by simpa using hq)
   have hB7:Below w.heap.size w w7:=by rw [hw7];exact hK6.2.2.2.setCell (by show w.heap.size≤w.heap.size+1;omega) _
   refine ⟨(hK6.1.keep (hf _ (by omega))).below hb,hA7.below hb,(hK6.2.2.1.keep (hf _ (by omega))).below hb,?_,hB7.trans (hb.mono hB7.size)⟩
   have hr0:=HRW.out w7 hB7
   exact hr0.below hb)
  have HT7:=Lib.hid hT7
  have HX7:=Lib.hid hX7
  rw [← hw7]
  clear hw7 hT7 hX7 hA7 hK6 hb5 hb6 hg6 ho ho6 he y0 y1 y2 y3 y4 y5 g0 g1 g2 g3 g4 g5 yy3 gg3 yl3 HRA4 HR5 HT4 HRD4 hZB hUw HB4
  obtain ⟨-,⟨y0,y1,y2,y3,y4,y5,-⟩,-,-,-⟩:=HKK.out w7 (Below.refl _ _)
  obtain ⟨z0,z1,z2,zf0,zf1,zf2⟩:=HT7.out.box
  have HO7:=Lib.hid (HT7.out.own.own _ (treRs_swap.mem_iff.2 List.mem_cons_self))
  have hq2:t.blocks.length=q2:=by
   obtain ⟨a9,n9,c9,e9,r9,-⟩:=HT7.out.rd.blocks
   simp only [Value.slice.injEq] at e9
   obtain ⟨-,rfl,-⟩:=e9
   exact r9.1
  have hl14:=((treB_iff t).1 HT.out).most
  have hbs7:w2.heap.size≤w7.heap.size:=Nat.le_trans HT7.out.zB (Nat.le_trans (Nat.le_of_lt HT7.out.zT) HT7.out.tw)
  have HBK:Hid (BkWf b):=Lib.hid ⟨hwf,HRA.out.2.2.2,by have:=HRA.out.1;omega⟩
  go_upto_region 6 with (first | (at_builtin;refine wpList_append_lit (W:=w7) rfl _ _ 24 rfl w2.heap.size 37 37 (.agg #[.int .i64 0,.int .i64 0,.int .i64 0,.slice none 0 0,.int .i64 0,.int .i64 0]) 6 64 1 Tryz.underlying24 infoBlkT rfl (by decide) (.slice p2 q2 k2) t.blocks.length _ [.int .i64 b.bef,.int .i64 b.hgt,.int .i64 b.view,.slice e1 e2 e3,.int .i64 b.root,.int .i64 b.effs] (by rfl) HO7.out (by simp [Act.eval]) rfl (by intro u hu;simp at hu;rcases hu with rfl | rfl | rfl | rfl | rfl | rfl <;> rfl) (by decide) (by omega) (by decide) hbs7 ?_;intro v10 w10 ho10 hnn10 hg10 hat10;obtain ⟨ra,rn,rc,rfl⟩:=slice_form ho10;obtain ⟨⟨j0,j1,j2,jf0,jf1,jf2⟩,hN⟩:=HT7.out.putBlock (b:=b) HX7.out hg10 hat10 ho10 HBK.out (by omega)))
  have hb10:Below w7.heap.size w7 w10∨True:=.inr trivial
  obtain ⟨w11,hw11⟩:∃ W,W=w10.setCell ⟨Zx,1,none⟩ (.slice ra rn rc):=⟨_,rfl⟩
  rw [← hw11] at hN ⊢
  have HB11:Hid (Below w2.heap.size w7 w11):=Lib.hid (by
   rw [hw11]
   exact (((Below.refl w2.heap.size w7).alloc hbs7 _).grown hg10 (by rw [World.size_alloc];omega) (fun q hq=>(HO7.out.lt q hq).1)).setCell (by exact HT7.out.zB) _)
  have HN11:=Lib.hid hN.top
  have HKL:Hid (∀ W,Below w2.heap.size w7 W→TrAt W w.heap.size (.slice a1 n1 c1) (.slice a2 n2 c2) (.slice a3 n3 c3)∧BkAt W (w.heap.size+1) (.int .i64 b.bef) (.int .i64 b.hgt) (.int .i64 b.view) (.slice e1 e2 e3) (.int .i64 b.root) (.int .i64 b.effs)∧TrAt W (w.heap.size+1+1) (.slice none 0 0) (.slice none 0 0) (.slice none 0 0)∧TreRd W (.slice a1 n1 c1) (.slice a2 n2 c2) (.slice a3 n3 c3) t∧Below w.heap.size w W):=Lib.hid (fun W hb=>by
   have hk:=HKK.out w7 (Below.refl _ _)
   have hu:=hs2.out
   have hz3:=HZ3.out
   have hB:Below w.heap.size w W:=hk.2.2.2.2.trans (hb.mono (by omega))
   exact ⟨hk.1.keep (hb.block _ (by omega)),hk.2.1.keep (hb.block _ (by omega)),hk.2.2.1.keep (hb.block _ (by omega)),HRW.out W hB,hB⟩)
  clear hw11 hN hb10 hg10 hat10 ho10 hnn10 z0 z1 z2 zf0 zf1 zf2 y0 y1 y2 y3 y4 y5 HT7 HX7 HO7 HKK hbs7 j0 j1 j2 jf0 jf1 jf2 HK
  obtain ⟨s1,s2,s3,hu3⟩:∃ s1 s2 s3,(.slice p3 q3 k3:Value) = .slice s1 s2 s3:=⟨_,_,_,rfl⟩
  clear hu3
  have HO11:=Lib.hid (HN11.out.own.own _ (treRs_swap3.mem_iff.2 List.mem_cons_self))
  have hlb:t.bef.length=t.blocks.length:=((treB_iff t).1 HT.out).len
  obtain ⟨fn,hfn⟩:∃ x,x=findL t.blocks b.bef:=⟨_,rfl⟩
  have HFN:=Lib.hid hfn.symm
  have hfb:=findL_bd t.blocks b.bef
  rw [← hfn] at hfb
  clear hfn
  have HWN:Hid ((Lit.int .i64 fn).wf=true):=Lib.hid (WalkArith.wf_i64 (by omega))
  have HBL:Hid (∀ W,Below w11.heap.size w11 W→Below w2.heap.size w7 W):=Lib.hid (fun W hb=>HB11.out.trans (hb.mono (Nat.le_trans HN11.out.zB (Nat.le_of_lt HN11.out.zT))))
  obtain ⟨⟨x0,x1,x2,-⟩,⟨y0,y1,y2,y3,y4,y5,-⟩,-,-,-⟩:=HKL.out w11 HB11.out
  obtain ⟨z0,z1,z2,-,-,-⟩:=HN11.out.box
  have hbs11:w2.heap.size≤w11.heap.size:=Nat.le_trans HN11.out.zB (Nat.le_of_lt HN11.out.zT)
  have HRDW:=Lib.hid (fun W hb=>(HKL.out W (HBL.out W hb)).2.2.2.1)
  have HCELL:=Lib.hid (fun W (hb:Below w11.heap.size w11 W)=>(⟨(HKL.out W (HBL.out W hb)).1,(HKL.out W (HBL.out W hb)).2.1,HN11.out.box.below hb,owns_below HO11.out hb⟩:TrAt W w.heap.size (.slice a1 n1 c1) (.slice a2 n2 c2) (.slice a3 n3 c3)∧BkAt W (w.heap.size+1) (.int .i64 b.bef) (.int .i64 b.hgt) (.int .i64 b.view) (.slice e1 e2 e3) (.int .i64 b.root) (.int .i64 b.effs)∧TrAt W Zx (.slice p1 q1 k1) (.slice ra rn rc) (.slice p3 q3 k3)∧W.ownsRow w2.heap.size 3 1 (.slice p3 q3 k3) t.bef.length (t.bef.map (Value.int .i64))))
  go_region_law (first
   | (go_simp;go_at_call 72;refine (l13Find_spec _ _ _ t b.bef w11.drew (HRDW.out _ (Below.refl _ _).drew)).mono ?_;rintro e1 w12 ⟨rfl,hb12'⟩;rw [HFN.out];have hb12:=(Below.refl w11.heap.size w11).drew.trans hb12';obtain ⟨-,-,⟨l0,l1,l2,-⟩,hown12⟩:=HCELL.out w12 hb12;obtain ⟨-,-,⟨m0,m1,m2,-⟩,-⟩:=HCELL.out (w12.alloc (.cells #[.int .i64 fn] 3)) (hb12.trans (((Below.refl w12.heap.size w12).alloc (Nat.le_refl _) _).mono hb12.size)))
   | (refine step_app1 (W:=w12) rfl (.tmp 25) (.tmp 30) 25 rfl w2.heap.size 3 _ (.int .i64 0) 1 8 Tryz.underlying25 infoIntT rfl (by decide) (.slice p3 q3 k3) t.bef.length _ [.int .i64 fn] (by rfl) hown12 (by rfl) rfl (by intro u hu;simp at hu;rcases hu with rfl;rfl) (by omega) (by decide) (Nat.le_trans hbs11 hb12.size) ?_;intro v13 w13 ho13 hnn13 hg13 hat13;obtain ⟨pa,pn,pc,rfl⟩:=slice_form ho13;obtain ⟨⟨r0,r1,r2,rf0,rf1,rf2⟩,hM13⟩:=(HN11.out.below hb12).putBef (n:=fn) hg13 hat13 ho13 HWN.out (by show t.bef.length < 4000000;omega)))
  all_goals
   have HM13:=Lib.hid hM13
   have HB13:Hid (Below w2.heap.size w7 (w13.setCell ⟨Zx,2,none⟩ (.slice pa pn pc))):=Lib.hid (by
    have h1:=HBL.out w12 hb12
    have h2:w2.heap.size≤w12.heap.size:=Nat.le_trans hbs11 hb12.size
    exact (((h1.alloc h2 _).grown hg13 (by rw [World.size_alloc];omega) (fun q hq=>(hown12.lt q hq).1))).setCell (by exact HN11.out.zB) _)
   clear hM13 hg13 hat13 ho13 hnn13 hown12 hb12 hb12' l0 l1 l2 m0 m1 m2 r0 r1 r2 rf0 rf1 rf2 x0 x1 x2 y0 y1 y2 y3 y4 y5 z0 z1 z2 HRDW HCELL HBL HB11 HN11 HO11
   obtain ⟨w14,hw14⟩:∃ W,W=w13.setCell ⟨Zx,2,none⟩ (.slice pa pn pc):=⟨_,rfl⟩
   rw [← hw14] at HM13 HB13 ⊢
   clear hw14
   have HAD:Hid (⟨(t.mid b).base,(t.mid b).blocks,(t.mid b).bef++[fn]⟩=t.add b):=Lib.hid (by unfold Tre.mid Tre.add;rw [← HFN.out])
   have HTR:=Lib.hid HM13.out
   rw [HAD.out] at HTR
   clear HM13
   obtain ⟨z0,z1,z2,-,-,-⟩:=HTR.out.box
   have HB14s:Hid (w2.heap.size≤w14.heap.size):=Lib.hid (Nat.le_trans HTR.out.zB (Nat.le_of_lt HTR.out.box.lt))
   go_upto_region 7 with (fail)
   go_wp2_with fail
   refine (blockTreeValid_spec _ _ _ (t.add b) _ HTR.out.rd).mono ?_;rintro e w15 ⟨rfl,hb15⟩
   have HB15:Hid (Below w2.heap.size w7 w15):=Lib.hid (HB13.out.trans (hb15.mono HB14s.out))
   have HT15:=Lib.hid (HTR.out.below hb15)
   have HB15s:Hid (w2.heap.size≤w15.heap.size):=Lib.hid (Nat.le_trans HB14s.out hb15.size)
   clear z0 z1 z2 hb15 HTR HB13
   obtain ⟨⟨x0,x1,x2,-⟩,-,hA15,hrd15,hB15⟩:=HKL.out w15 HB15.out
   cases hv:treB (t.add b) with
   | true =>
    have HE:=Lib.hid (putT_yes HT.out hv)
    have HF:=Lib.hid (hA15.set3b (.slice p1 q1 k1) (.slice ra rn rc) (.slice pa pn pc))
    have ht15:=set3b_turn w15 (w.heap.size+1+1) (.slice p1 q1 k1) (.slice ra rn rc) (.slice pa pn pc)
    have HBF:=Lib.hid (ht15.below hB15 (by omega) hB15.size)
    have HO:=Lib.hid ((HT15.out.tre.turn ht15 (.inr (.inl (by have:=HZ3.out;have:=hs2.out;omega)))).top.mono (show w.heap.size≤w2.heap.size by have:=HZ3.out;have:=hs2.out;omega) (Nat.le_refl _))
    unfold set3b at HF HBF HO
    obtain ⟨z0,z1,z2,-,-,-⟩:=HT15.out.box
    obtain ⟨c0,c1,c2,f0,f1,f2⟩:=hA15
    clear hv hB15 hrd15 ht15 x0 x1 x2 HKL HT15 HB15
    go_wp2_with fail
    refine bodyPost_ret (results_treB Tryz.results30 _ (by rfl) HF.out (.bool true) (by rfl)) rfl ?_
    rw [HE.out]
    exact ⟨_,_,_,_,rfl,HO.out,HBF.out⟩
   | false =>
    have HE:=Lib.hid (putT_not HT.out hv)
    have HRD15:=Lib.hid hrd15
    clear hv hrd15 hA15 hB15 HT15
    go_wp2_with fail
    refine (l13Copy_spec _ _ _ t _ HRD15.out HTW.out).mono ?_;rintro e w16 ⟨u1,u2,u3,ts2,rfl,hown16,hb16⟩
    obtain ⟨o1,o2,o3,o4,o5,o6,o7,o8,o9,rfl,rfl,rfl⟩:=trRd_form4 hown16.rd
    obtain ⟨-,-,hA16,-,hB16⟩:=HKL.out w16 (HB15.out.trans (hb16.mono HB15s.out))
    have HF:=Lib.hid (hA16.set3b (.slice o1 o2 o3) (.slice o4 o5 o6) (.slice o7 o8 o9))
    have ht16:=set3b_turn w16 (w.heap.size+1+1) (.slice o1 o2 o3) (.slice o4 o5 o6) (.slice o7 o8 o9)
    have HBF:=Lib.hid (ht16.below hB16 (by omega) hB16.size)
    have HSZ15:=HB15s.out
    have HO:=Lib.hid ((hown16.turn ht16 (.inr (.inl (by have:=HZ3.out;have:=hs2.out;omega)))).top.mono (show w.heap.size≤w15.heap.size by have:=HZ3.out;have:=hs2.out;omega) (Nat.le_refl _))
    unfold set3b at HF HBF HO
    obtain ⟨c0,c1,c2,f0,f1,f2⟩:=hA16
    clear hB16 ht16 x0 x1 x2 HKL HB15 hown16 hb16
    go_wp2_with fail
    refine bodyPost_ret (results_treB Tryz.results30 _ (by rfl) HF.out (.bool false) (by rfl)) rfl ?_
    rw [HE.out]
    exact ⟨_,_,_,_,rfl,HO.out,HBF.out⟩
def NewSt (w:World) (l:List Ent) (e:Ending) (w':World):Prop :=
 ∃ v,e = .returned v∧w'.ownsRow w.heap.size 142 2 v l.length (flatE l)∧WfE l∧l.length≤32∧Below w.heap.size w w'
theorem path_mem (t:Tre) (n:Int):∀ x∈pathM t n,0≤x∧x < t.blocks.length:=by
 intro x hx
 cases h:treB t with
 | false=>rw [pathM_no (.inl h)] at hx;cases hx
 | true =>
  by_cases hn:0≤n∧n < (t.blocks.length:Int)
  · obtain ⟨k,rfl⟩:=Int.eq_ofNat_of_zero_le hn.1
    have ht:=(treB_iff t).1 h
    rw [pathM_yes h hn.1 hn.2] at hx
    have:=way_mem ht.down k (by rw [ht.len];omega) x hx
    omega
  · rw [pathM_no (.inr hn)] at hx;cases hx
theorem path_ok {t:Tre} {n:Int} (h:(pathM t n).length≠0):treB t=true:=by
 cases h2:treB t with
 | false=>rw [pathM_no (.inl h2)] at h;exact absurd rfl h
 | true=>rfl
theorem getD_take_snoc (P:List Int) {k:Nat} (hk:k < P.length):P.take (k+1)=P.take k++[P.getD k 0]:=by
 rw [List.take_succ_eq_append_getElem hk,List.getD_eq_getElem?_getD,List.getElem?_eq_getElem hk];rfl
theorem getD_memI (P:List Int) {k:Nat} (hk:k < P.length):P.getD k 0∈P:=by
 rw [List.getD_eq_getElem?_getD,List.getElem?_eq_getElem hk];exact List.getElem_mem hk
set_option maxRecDepth 100000 in
set_option maxHeartbeats 8000000 in
theorem storeOf_spec (v1 v2 v3:Value) (t:Tre) (n:Int) (w:World) (h:TreRd w v1 v2 v3 t) :
  Calls Tryz.prog 91 #[.agg #[v1,v2,v3],.int .i64 n] w (NewSt w (storeOfM t n)):=by
 have hrd:=h
 obtain ⟨⟨a1,n1,c1,rfl,r1,hz1,-⟩,⟨a2,n2,c2,rfl,r2,-,-⟩,a3,n3,c3,rfl,r3,-,-⟩:=h
 have hl2:t.blocks.length=n2:=r2.1
 have hb0:=(Below.refl w.heap.size w).alloc (Nat.le_refl _) (.cells #[.slice a1 n1 c1,.slice a2 n2 c2,.slice a3 n3 c3] 27)
 have hg0:=trAt_new w 27 (.slice a1 n1 c1) (.slice a2 n2 c2) (.slice a3 n3 c3)
 obtain ⟨W1,hW1⟩:∃ W1,W1=w.alloc (.cells #[.slice a1 n1 c1,.slice a2 n2 c2,.slice a3 n3 c3] 27):=⟨_,rfl⟩
 have HW1:=Lib.hid hW1
 rw [← hW1] at hb0 hg0
 clear hW1
 have HK:=Lib.hid (fun (W:World) (hb:Below W1.heap.size W1 W)=>(⟨hg0.below hb,(hrd.below hb0).below hb,(r1.below hb0).below hb,(r2.below hb0).below hb,hb0.trans (hb.mono hb0.size)⟩:TrAt W w.heap.size (.slice a1 n1 c1) (.slice a2 n2 c2) (.slice a3 n3 c3)∧TreRd W (.slice a1 n1 c1) (.slice a2 n2 c2) (.slice a3 n3 c3) t∧RowE W a1 n1 t.base∧RowBs W a2 n2 t.blocks∧Below w.heap.size w W))
 have HS0:Hid (w.heap.size≤W1.heap.size):=Lib.hid hb0.size
 have HN1:Hid (a1=none→n1=0∧c1=0):=Lib.hid (fun e=>by
  refine ⟨?_,hz1 e⟩
  rcases Nat.eq_zero_or_pos n1 with h | h
  · exact h
  · obtain ⟨b,o,h2,_⟩:=r1.2.2.1 h;rw [e] at h2;cases h2)
 have HL1:Hid ((flatE t.base).length=n1*2):=Lib.hid (by rw [flatE_len,r1.1])
 have HL2:=Lib.hid hl2
 have HR1L:=Lib.hid r1.1
 obtain ⟨P,hP⟩:∃ P,P=pathM t n:=⟨_,rfl⟩
 have hpm:=path_mem t n
 have hpk:=path_ok (t:=t) (n:=n)
 have HSO:Hid (storeOfM t n=if P.length=0 then [] else storesL t t.base P):=Lib.hid (by rw [hP];rfl)
 have HP:=Lib.hid hP.symm
 rw [← hP] at hpm hpk
 have HPM:=Lib.hid hpm
 have HPK:=Lib.hid hpk
 clear hb0 hg0 hrd r1 r2 r3 hl2 hz1 hP hpm hpk
 go_enter Tryz.func91,Tryz.ntmps91
 go_upto_region 1 with (fail)
 rw [← HW1.out]
 clear HW1
 obtain ⟨⟨x0,x1,x2,-⟩,hrd1,-,-,-⟩:=HK.out W1 (Below.refl _ _)
 go_wp2_with fail
 refine (pathTo_spec _ _ _ t n _ hrd1).mono ?_;rintro e w2 ⟨vp,rfl,hop,hwp,hlp,hb2⟩
 rw [HP.out] at hop hwp hlp
 obtain ⟨ap,cp,rfl,rp⟩:=rowI_of_owns hop (by unfold maxLen;omega) hwp
 have HRP:=Lib.hid rp
 have HB2:=Lib.hid hb2
 have hlit:=own_lit (w:=w2) (B:=w2.heap.size) 142 2 #[] 0 (Nat.le_refl _) (by unfold maxLen;omega) rfl
 have hb3:=(Below.refl w2.heap.size w2).alloc (Nat.le_refl _) (.cells #[] 142)
 have HR3:=Lib.hid ((HK.out w2 hb2).2.2.1.below hb3)
 obtain ⟨⟨y0,y1,y2,-⟩,-,-,-,-⟩:=HK.out _ (hb2.trans (hb3.mono hb2.size))
 have HS2:Hid (W1.heap.size≤w2.heap.size):=Lib.hid hb2.size
 clear x0 x1 x2 hrd1 hop hwp hb2 rp
 by_cases h0:P.length=0
 · have e0:decide (0 < P.length)=false:=by simp [h0]
   have e0i:decide ((0:Int) < (P.length:Int))=false:=by simp [h0]
   have e1:decide ((P.length:Int) > 0)=false:=by simp [h0]
   have HSN:Hid (storeOfM t n=[]):=Lib.hid (by rw [HSO.out,if_pos h0])
   have hbf:=(HK.out _ (HB2.out.trans (hb3.mono HB2.out.size))).2.2.2.2
   have HBF:=Lib.hid hbf
   have HLIT:=Lib.hid hlit
   have HLS:=Lib.hid (Nat.le_trans HS0.out HS2.out)
   clear hbf hb3 hlit
   have hP0:P=[]:=List.eq_nil_of_length_eq_zero h0
   subst hP0
   obtain ⟨w3,hw3⟩:∃ W,W=w2.alloc (.cells #[] 142):=⟨_,rfl⟩
   rw [← hw3] at HBF HLIT
   have HW3:=Lib.hid hw3
   clear hw3 h0
   go_wp2_with fail
   rw [← HW3.out]
   clear y0 y1 y2 HR3 HW3
   go_loopw [6,7] (fun v i wr=>v = .slice (some ⟨w2.heap.size,0,none⟩) 0 0∧i = .int .i64 0∧wr=w3) (fun _ _ _=>0)
   case atStart=>exact ⟨rfl,rfl,rfl⟩
   case round =>
    obtain ⟨rfl,rfl,rfl⟩:=hrel
    go_wp2_with fail
    go_ret
    rw [HSN.out]
    exact ⟨_,rfl,owns_mono HLIT.out.1 HLS.out,fun x hx=>(by cases hx),by simp,HBF.out⟩
 · have hpos:0 < P.length:=by omega
   have e0:decide (0 < P.length)=true:=by simp;omega
   have HT:=Lib.hid (HPK.out h0)
   have HSN:Hid (storeOfM t n=storesL t t.base P):=Lib.hid (by rw [HSO.out,if_neg h0])
   have htk:=(treB_iff t).1 HT.out
   have hbl:=store_len htk.base
   have hm14:=htk.most
   have hn1:n1≤4000000:=by rw [← HR1L.out];omega
   clear h0 htk
   have HB3:=Lib.hid (HB2.out.trans (hb3.mono HB2.out.size))
   go_wp2_with (first | (at_builtin;refine wpList_append_rows rfl _ _ 23 rfl w2.heap.size 142 (.agg #[.int .i64 0,.int .i64 0]) 2 16 Tryz.underlying23 infoEntT rfl (by decide) _ 0 [] (flatE t.base) (by rfl) hlit a1 n1 c1 (by rfl) HN1.out HL1.out HR3.out.news (flatE_oneCell t.base) (by omega) (by decide) (by simp) ?_;intro v5 w5 ho5 hg5;have hb5:=hb3.grown hg5 (by simp) (fun q hq=>(hlit.1.lt q hq).1)))
   rw [Nat.zero_add,List.nil_append] at ho5
   have HO5:Hid (w5.ownsRow W1.heap.size 142 2 v5 t.base.length (flatE t.base)):=Lib.hid (by rw [HR1L.out];exact owns_mono ho5.1 HS2.out)
   have HB5:=Lib.hid (HB2.out.trans (hb5.mono HB2.out.size))
   have HR5:=Lib.hid (HRP.out.below hb5)
   have HWB:Hid (WfE t.base):=Lib.hid HR3.out.2.2.2
   clear ho5 hg5 hb5 hb3 hlit y0 y1 y2 HR3 HB3 HRP
   go_loopw [6,7] (fun v i wr=>∃ k:Nat,i = .int .i64 k∧k≤P.length∧wr.ownsRow W1.heap.size 142 2 v (storesL t t.base (P.take k)).length (flatE (storesL t t.base (P.take k)))∧WfE (storesL t t.base (P.take k))∧(storesL t t.base (P.take k)).length≤32∧Below w5.heap.size w5 wr∧Below W1.heap.size W1 wr) (fun _ i _=>P.length - (intOf i).toNat)
   case atStart=>exact ⟨0,rfl,Nat.zero_le _,HO5.out,HWB.out,hbl,Below.refl _ _,HB5.out⟩
   case round =>
    clear HO5 HB5
    obtain ⟨k,rfl,hk,hown,hwf,hlen,hbp,hb⟩:=hrel
    obtain ⟨S,hS⟩:∃ S,S=storesL t t.base (P.take k):=⟨_,rfl⟩
    rw [← hS] at hown hwf hlen
    have HSE:=Lib.hid hS.symm
    have HB:=Lib.hid hb
    have HBP:=Lib.hid hbp
    clear hS
    obtain ⟨a4,c4,rfl,r4,hz4⟩:=rowE_of_owns hown (by omega) hwf
    by_cases hlt:k < P.length
    · have hxm:=HPM.out _ (getD_memI P hlt)
      have hrp:=HR5.out.below hbp
      obtain ⟨gp,op,rfl,hcp⟩:=hrp.2.2.1 hpos
      have q0:=hcp k hlt
      have HNX:Hid (storesL t t.base (P.take (k+1))=(serM S (blkAt t.blocks (P.getD k 0).toNat).acts).1):=Lib.hid (by rw [getD_take_snoc P hlt,storesL_snoc,HSE.out])
      obtain ⟨m,hm⟩:=Int.eq_ofNat_of_zero_le hxm.1
      rw [hm] at HNX hxm q0
      have hmn:m < n2:=by rw [← HL2.out];omega
      have hmi:(m:Int) < (n2:Int):=by omega
      have hm0:(0:Int)≤(m:Int):=by omega
      have hki:(k:Int) < (P.length:Int):=by omega
      have hk0:(0:Int)≤(k:Int):=by omega
      obtain ⟨b2,off2,rfl,hbk⟩:=(HK.out wr hb).2.2.2.1.at m hmn
      obtain ⟨-,-,-,⟨vl,g3,al,ml,cl,rfl,rl,-,-⟩,-,-⟩:=hbk
      obtain ⟨⟨x0,x1,x2,-⟩,-,-,-,-⟩:=HK.out wr hb
      have hbw:b2 < wr.heap.size:=World.block_lt_of_cell? wr ⟨b2,off2+m*6+3,none⟩ g3
      have hgw:gp < wr.heap.size:=World.block_lt_of_cell? wr ⟨gp,op+k,none⟩ q0
      have hxw:w.heap.size < wr.heap.size:=World.block_lt_of_cell? wr ⟨w.heap.size,1,none⟩ x1
      have HKP:Hid (∀ W,Below wr.heap.size wr W→W.cell? ⟨w.heap.size,1,none⟩=some (.slice (some ⟨b2,off2,none⟩) n2 c2)∧W.cell? ⟨gp,op+k,none⟩=some (.int .i64 (m:Int))∧W.cell? ⟨b2,off2+m*6+3,none⟩=some (.slice al ml cl)):=Lib.hid (fun W hb=>⟨(hb.cell (p:=⟨w.heap.size,1,none⟩) hxw).trans x1,(hb.cell (p:=⟨gp,op+k,none⟩) hgw).trans q0,(hb.cell (p:=⟨b2,off2+m*6+3,none⟩) hbw).trans g3⟩)
      have HR4:=Lib.hid r4
      have HRL:=Lib.hid rl
      have hww:W1.heap.size≤wr.heap.size:=hb.size
      have hkp0:=HKP.out wr (Below.refl _ _)
      clear hown hwf r4 rl hbp hb hcp hrp hxm hbw hgw hxw g3 q0
      obtain ⟨z1,z2,z3⟩:=hkp0
      go_upto_region 8 with (fail)
      go_region_held3 (fun w'=>w'.cell? ⟨w.heap.size,1,none⟩=some (.slice (some ⟨b2,off2,none⟩) n2 c2)∧w'.cell? ⟨gp,op+k,none⟩=some (.int .i64 (m:Int))∧w'.cell? ⟨b2,off2+m*6+3,none⟩=some (.slice al ml cl)) (first | exact ⟨z1,z2,z3⟩ | exact hkp | go_keep)
       (first | (go_at_call 147;refine (runSerial_spec a4 S.length c4 S al ml cl _ wr.drew (show RowE wr.drew _ _ _ from HR4.out) hz4 (show RowA wr.drew _ _ _ from HRL.out)).mono ?_;rintro e1 w7 ⟨v7,u7,rfl,hSF,hb7'⟩;have hb7:=(Below.refl wr.heap.size wr).drew.trans hb7';obtain ⟨a8,k8,rfl,-⟩:=hSF.row (by have:=serM_store S (blkAt t.blocks m).acts;exact Nat.le_trans this (by decide));obtain ⟨a9,k9,rfl,-⟩:=rowFs_of_own hSF.effs;have hkp:=HKP.out _ hb7))
      have HBN:=Lib.hid (HB.out.trans (hb7.mono HB.out.size))
      have HBPN:=Lib.hid (HBP.out.trans (hb7.mono HBP.out.size))
      have HSF:=Lib.hid (owns_mono hSF.1 hww)
      have HWS:=Lib.hid hSF.2.1
      have HLS:=Lib.hid (serM_store S (blkAt t.blocks m).acts)
      clear hb7 hb7' hSF hkp HKP x0 x1 x2 HR4 HRL
      go_wp2_with fail
      go_roundw
      case rel=>exact ⟨k+1,by go_num,hlt,by rw [HNX.out];exact HSF.out,by rw [HNX.out];exact HWS.out,by rw [HNX.out];exact HLS.out,HBPN.out,HBN.out⟩
      case measure=>simp [intOf];omega
    · obtain rfl:k=P.length:=by omega
      have HSF:Hid (storeOfM t n=S):=Lib.hid (by rw [HSN.out,← HSE.out,List.take_length])
      have HOW:=Lib.hid (owns_mono hown HS0.out)
      have HBF:=Lib.hid (HK.out wr hb).2.2.2.2
      have HWF:=Lib.hid hwf
      clear hown hb hbp hwf r4
      go_wp2_with fail
      go_ret
      rw [HSF.out]
      exact ⟨_,rfl,HOW.out,HWF.out,hlen,HBF.out⟩
def GrB (W1 F:World) (Z:Nat) (x:Blk):Prop :=
 ∃ xa xn xc,BkAt F Z (.int .i64 x.bef) (.int .i64 x.hgt) (.int .i64 x.view) (.slice xa xn xc) (.int .i64 x.root) (.int .i64 x.effs)∧RowA F xa xn x.acts∧(xa=none→xc=0)∧xn≤4000000∧WfB x∧Below W1.heap.size W1 F
theorem grB_alloc {W1 w7 w8:World} {x:Blk} {xa:Option Addr} {xn xc:Nat} {T:TypeId} (hb:Below W1.heap.size W1 w7) (hb8:Below w7.heap.size w7 w8) {Tr:Nat} (ho:w8.ownsRow Tr 113 4 (.slice xa xn xc) x.acts.length (flatA x.acts)) (hwa:WfAs x.acts) (hwb:WfB x) (hl:x.acts.length≤4000000) :
  GrB W1 (w8.alloc (.cells #[.int .i64 x.bef,.int .i64 x.hgt,.int .i64 x.view,.slice xa xn xc,.int .i64 x.root,.int .i64 x.effs] T)) w8.heap.size x:=by
 have hba:=(Below.refl w8.heap.size w8).alloc (Nat.le_refl _) (.cells #[.int .i64 x.bef,.int .i64 x.hgt,.int .i64 x.view,.slice xa xn xc,.int .i64 x.root,.int .i64 x.effs] T)
 obtain ⟨a',c',e,r,hz,-⟩:=rowA_of_owns ho hl hwa
 simp only [Value.slice.injEq] at e
 obtain ⟨rfl,rfl,rfl⟩:=e
 have hb18:=hb.trans (hb8.mono hb.size)
 exact ⟨_,_,_,bkAt_new w8 T _ _ _ _ _ _,r.below hba,hz,hl,hwb,hb18.trans (hba.mono hb18.size)⟩
theorem grB_set {W1 w7 w8:World} {x:Blk} {xa:Option Addr} {xn xc Z:Nat} {z0 z1 z2 z3 z4 z5:Value} (hb:Below W1.heap.size W1 w7) (hb8:Below w7.heap.size w7 w8) (hz:BkAt w8 Z z0 z1 z2 z3 z4 z5) (hZ:W1.heap.size≤Z) (hZ7:Z < w7.heap.size) (ho:w8.ownsRow w7.heap.size 113 4 (.slice xa xn xc) x.acts.length (flatA x.acts)) (hwa:WfAs x.acts) (hwb:WfB x) (hl:x.acts.length≤4000000) :
  GrB W1 ((((((w8.setCell ⟨Z,0,none⟩ (.int .i64 x.bef)).setCell ⟨Z,1,none⟩ (.int .i64 x.hgt)).setCell ⟨Z,2,none⟩ (.int .i64 x.view)).setCell ⟨Z,3,none⟩ (.slice xa xn xc)).setCell ⟨Z,4,none⟩ (.int .i64 x.root)).setCell ⟨Z,5,none⟩ (.int .i64 x.effs)) Z x:=by
 have hno:Value.ownBlock (.slice xa xn xc)≠some Z:=fun e=>by have:=(ho.lt _ e).1;omega
 have ho2:=owns_set6 ho hno (.int .i64 x.bef) (.int .i64 x.hgt) (.int .i64 x.view) (.slice xa xn xc) (.int .i64 x.root) (.int .i64 x.effs)
 obtain ⟨a',c',e,r,hz',-⟩:=rowA_of_owns ho2 hl hwa
 simp only [Value.slice.injEq] at e
 obtain ⟨rfl,rfl,rfl⟩:=e
 exact ⟨_,_,_,hz.set6 _ _ _ _ _ _,r,hz',hl,hwb,below_set6 (hb.trans (hb8.mono hb.size)) hZ _ _ _ _ _ _⟩
theorem below_storedG {B Z:Nat} {a w:World} (h:Below B a w) (hZ:B≤Z) (k:Nat) (v:Value):Below B a (w.setCell ⟨Z,k,none⟩ v):=h.setCell hZ v
theorem growM_no {t:Tre} {n view:Int} {L:List Acn} (h:treB t=false):growM t n view L=(noTre,false):=by unfold growM;rw [h];rfl
theorem growM_out {t:Tre} {n view:Int} {L:List Acn} (h:treB t=true) (h2:inB n 0 ((t.blocks.length:Int) - 1)=false):growM t n view L=(t,false):=by unfold growM;rw [h,h2];rfl
theorem growM_not {t:Tre} {n view:Int} {L:List Acn} (h:treB t=true) (h2:inB n 0 ((t.blocks.length:Int) - 1)=true) (h3:nextB (blkAt t.blocks n.toNat) (storeOfM t n) view L=false):growM t n view L=(t,false):=by unfold growM;rw [h,h2,h3];rfl
theorem growM_yes {t:Tre} {n view:Int} {L:List Acn} (h:treB t=true) (h2:inB n 0 ((t.blocks.length:Int) - 1)=true) (h3:nextB (blkAt t.blocks n.toNat) (storeOfM t n) view L=true):growM t n view L=putT t (nextM (blkAt t.blocks n.toNat) (storeOfM t n) view L):=by unfold growM nextM;rw [h,h2,h3];rfl
theorem nextM_len (b:Blk) (S:List Ent) (view:Int) (M:List Acn):(nextM b S view M).acts.length≤10:=by
 unfold nextM;split
 · rename_i h
   exact (actsB_true (nextB_true h).2.2.2.2.2).1
 · exact Nat.zero_le _
set_option maxRecDepth 100000 in
set_option maxHeartbeats 8000000 in
theorem growTree_spec (v1 v2 v3:Value) (t:Tre) (n view:Int) (a:Option Addr) (m c:Nat) (L:List Acn) (w:World) (h:TreRd w v1 v2 v3 t) (hr:RowA w a m L) (hz:a=none→c=0) (hvw:(Lit.int .i64 view).wf=true) :
  Calls Tryz.prog 124 #[.agg #[v1,v2,v3],.int .i64 n,.int .i64 view,.slice a m c] w (NewTreB w tTre (growM t n view L).1 (growM t n view L).2):=by
 have hrd:=h
 obtain ⟨⟨a1,n1,c1,rfl,-⟩,⟨a2,n2,c2,rfl,r2,-,-⟩,a3,n3,c3,rfl,-⟩:=h
 have hl2:t.blocks.length=n2:=r2.1
 have hb0:=((Below.refl w.heap.size w).alloc (Nat.le_refl _) (.cells #[.slice a1 n1 c1,.slice a2 n2 c2,.slice a3 n3 c3] 27)).alloc (by simp) (.cells #[.slice none 0 0,.slice none 0 0,.slice none 0 0] 27)
 have hg0:=(trAt_new w 27 (.slice a1 n1 c1) (.slice a2 n2 c2) (.slice a3 n3 c3)).below ((Below.refl _ _).alloc (Nat.le_refl _) (.cells #[.slice none 0 0,.slice none 0 0,.slice none 0 0] 27))
 have hg1:=trAt_new (w.alloc (.cells #[.slice a1 n1 c1,.slice a2 n2 c2,.slice a3 n3 c3] 27)) 27 (.slice none 0 0) (.slice none 0 0) (.slice none 0 0)
 rw [World.size_alloc] at hg1
 obtain ⟨W1,hW1⟩:∃ W1,W1=(w.alloc (.cells #[.slice a1 n1 c1,.slice a2 n2 c2,.slice a3 n3 c3] 27)).alloc (.cells #[.slice none 0 0,.slice none 0 0,.slice none 0 0] 27):=⟨_,rfl⟩
 have HW1:=Lib.hid hW1
 have HZ2:Hid (w.heap.size+2=W1.heap.size):=Lib.hid (by rw [hW1];simp)
 rw [← hW1] at hb0 hg0 hg1
 clear hW1
 have HK:=Lib.hid (fun (W:World) (hb:Below W1.heap.size W1 W)=>(⟨hg0.below hb,hg1.below hb,(hrd.below hb0).below hb,(hr.below hb0).below hb,hb0.trans (hb.mono hb0.size)⟩:TrAt W w.heap.size (.slice a1 n1 c1) (.slice a2 n2 c2) (.slice a3 n3 c3)∧TrAt W (w.heap.size+1) (.slice none 0 0) (.slice none 0 0) (.slice none 0 0)∧TreRd W (.slice a1 n1 c1) (.slice a2 n2 c2) (.slice a3 n3 c3) t∧RowA W a m L∧Below w.heap.size w W))
 have HR2:=Lib.hid (fun (W:World) (hb:Below W1.heap.size W1 W)=>(r2.below hb0).below hb)
 have HL2:=Lib.hid hl2
 have HVW:=Lib.hid hvw
 clear hb0 hg0 hg1 hrd r2 hl2 hr hvw
 go_enter Tryz.func124,Tryz.ntmps124
 go_upto_region 1 with (fail)
 rw [← HW1.out]
 clear HW1
 obtain ⟨⟨x0,x1,x2,-⟩,-,hrd1,-,-⟩:=HK.out W1 (Below.refl _ _)
 have HRD1:=Lib.hid hrd1
 clear hrd1
 go_wp2_with fail
 refine (blockTreeValid_spec _ _ _ t _ HRD1.out).mono ?_;rintro e w2 ⟨rfl,hb2⟩
 have HBX:=Lib.hid hb2
 clear x0 x1 x2 hb2 HRD1
 cases ht:treB t with
 | false =>
  have HE:=Lib.hid (growM_no (n:=n) (view:=view) (L:=L) ht)
  obtain ⟨-,hA2,-,-,hB2⟩:=HK.out w2 HBX.out
  have HF:=Lib.hid (hA2.set3b (.slice none 0 0) (.slice none 0 0) (.slice none 0 0))
  have HBF:=Lib.hid ((set3b_turn w2 (w.heap.size+1) (.slice none 0 0) (.slice none 0 0) (.slice none 0 0)).below hB2 (by omega) hB2.size)
  unfold set3b at HF HBF
  obtain ⟨c0,c1',c2',f0,f1,f2⟩:=hA2
  clear hB2 ht
  go_wp2_with fail
  refine bodyPost_ret (results_treB Tryz.results124 _ (by rfl) HF.out (.bool false) (by rfl)) rfl ?_
  rw [HE.out]
  exact ⟨_,_,_,[],rfl,treOwn_no _ _ _ _,HBF.out⟩
 | true =>
 have HT:=Lib.hid ht
 have HTW:=Lib.hid (treWf_ok (HK.out w2 HBX.out).2.2.1 ht)
 have htk:=(treB_iff t).1 ht
 have hm14:=htk.most
 have hone:=htk.one
 rw [HL2.out] at hm14 hone
 have hw1:IntKind.i64.wrap ((n2:Int) - 1)=(n2:Int) - 1:=IntWalk.i64_in _ (by omega)
 clear ht htk
 obtain ⟨⟨x0,x1,x2,-⟩,-⟩:=HK.out w2 HBX.out
 cases hd:inB n 0 ((n2:Int) - 1) with
 | false =>
  have HE:Hid (growM t n view L=(t,false)):=Lib.hid (growM_out HT.out (by rw [HL2.out];exact hd))
  go_upto_region 4 with (first | (go_at_call 84;refine (l1In_spec _ _ _ _).mono ?_;rintro e w2 ⟨rfl,rfl⟩;rw [hd]))
  clear hd hw1 hm14 hone x0 x1 x2
  obtain ⟨⟨x0,x1,x2,-⟩,-,hrdx,-,-⟩:=HK.out _ HBX.out
  have HRDX:=Lib.hid hrdx
  clear hrdx
  go_wp2_with fail
  refine (l13Copy_spec _ _ _ t _ HRDX.out HTW.out).mono ?_;rintro e w16 ⟨u1,u2,u3,ts2,rfl,hown16,hb16⟩
  obtain ⟨o1,o2,o3,o4,o5,o6,o7,o8,o9,rfl,rfl,rfl⟩:=trRd_form4 hown16.rd
  obtain ⟨-,hA16,-,-,hB16⟩:=HK.out w16 (HBX.out.trans (hb16.mono HBX.out.size))
  have HF:=Lib.hid (hA16.set3b (.slice o1 o2 o3) (.slice o4 o5 o6) (.slice o7 o8 o9))
  have ht16:=set3b_turn w16 (w.heap.size+1) (.slice o1 o2 o3) (.slice o4 o5 o6) (.slice o7 o8 o9)
  have HBF:=Lib.hid (ht16.below hB16 (by omega) hB16.size)
  have hxs:=HBX.out.size
  have HO:=Lib.hid ((hown16.turn ht16 (.inr (.inl (by have:=HZ2.out;omega)))).top.mono (B':=w.heap.size) (by have:=HZ2.out;omega) (Nat.le_refl _))
  unfold set3b at HF HBF HO
  obtain ⟨c0,c1',c2',f0,f1,f2⟩:=hA16
  clear hB16 ht16 x0 x1 x2 hown16 hb16 hxs
  go_wp2_with fail
  refine bodyPost_ret (results_treB Tryz.results124 _ (by rfl) HF.out (.bool false) (by rfl)) rfl ?_
  rw [HE.out]
  exact ⟨_,_,_,_,rfl,HO.out,HBF.out⟩
 | true =>
 have hnb:=inB_true hd
 obtain ⟨k,rfl⟩:=Int.eq_ofNat_of_zero_le hnb.1
 have hkn:k < n2:=by omega
 have HD:Hid (inB (k:Int) 0 ((t.blocks.length:Int) - 1)=true):=Lib.hid (by rw [HL2.out];exact hd)
 go_upto_region 5 with (first | (go_at_call 84;refine (l1In_spec _ _ _ _).mono ?_;rintro e w2 ⟨rfl,rfl⟩;rw [hd]))
 clear hd hw1 hnb x0 x1 x2
 obtain ⟨wr,hwr⟩:∃ W,W=w2:=⟨_,rfl⟩
 subst hwr
 obtain ⟨x,hx⟩:∃ x,x=nextM (blkAt t.blocks k) (storeOfM t k) view L:=⟨_,rfl⟩
 obtain ⟨nb,hnb⟩:∃ x,x=nextB (blkAt t.blocks k) (storeOfM t k) view L:=⟨_,rfl⟩
 obtain ⟨b2,off2,rfl,hbk⟩:=(HR2.out wr HBX.out).at k hkn
 obtain ⟨y,hy⟩:∃ y,y=t.blocks.getD k noBlk:=⟨_,rfl⟩
 have hya:blkAt t.blocks k=y:=by rw [hy];rfl
 rw [hya] at hx hnb
 rw [← hy] at hbk
 clear hy
 have HXE:=Lib.hid hx.symm
 have HNB:=Lib.hid hnb.symm
 have HYA:=Lib.hid hya
 have HXL:Hid (x.acts.length≤4000000):=Lib.hid (by rw [hx];exact Nat.le_trans (nextM_len _ _ _ _) (by decide))
 clear hx hnb hya
 obtain ⟨g0,g1,g2,⟨vl,g3,al,ml,cl,rfl,rl,-,-⟩,g4,g5⟩:=hbk
 obtain ⟨⟨x0,x1,x2,-⟩,-⟩:=HK.out wr HBX.out
 have hbw:b2 < wr.heap.size:=World.block_lt_of_cell? wr ⟨b2,off2+k*6,none⟩ g0
 have hxw:w.heap.size < wr.heap.size:=World.block_lt_of_cell? wr ⟨w.heap.size,1,none⟩ x1
 have HKP:Hid (∀ W,Below wr.heap.size wr W→(W.cell? ⟨w.heap.size,0,none⟩=some (.slice a1 n1 c1)∧W.cell? ⟨w.heap.size,1,none⟩=some (.slice (some ⟨b2,off2,none⟩) n2 c2)∧W.cell? ⟨w.heap.size,2,none⟩=some (.slice a3 n3 c3))∧W.cell? ⟨b2,off2+k*6,none⟩=some (.int .i64 y.bef)∧W.cell? ⟨b2,off2+k*6+1,none⟩=some (.int .i64 y.hgt)∧W.cell? ⟨b2,off2+k*6+2,none⟩=some (.int .i64 y.view)∧W.cell? ⟨b2,off2+k*6+3,none⟩=some (.slice al ml cl)∧W.cell? ⟨b2,off2+k*6+4,none⟩=some (.int .i64 y.root)∧W.cell? ⟨b2,off2+k*6+5,none⟩=some (.int .i64 y.effs)):=Lib.hid (fun W hb =>
  ⟨⟨(hb.cell (p:=⟨w.heap.size,0,none⟩) hxw).trans x0,(hb.cell (p:=⟨w.heap.size,1,none⟩) hxw).trans x1,(hb.cell (p:=⟨w.heap.size,2,none⟩) hxw).trans x2⟩,(hb.cell (p:=⟨b2,off2+k*6,none⟩) hbw).trans g0,(hb.cell (p:=⟨b2,off2+k*6+1,none⟩) hbw).trans g1,(hb.cell (p:=⟨b2,off2+k*6+2,none⟩) hbw).trans g2,(hb.cell (p:=⟨b2,off2+k*6+3,none⟩) hbw).trans g3,(hb.cell (p:=⟨b2,off2+k*6+4,none⟩) hbw).trans g4,(hb.cell (p:=⟨b2,off2+k*6+5,none⟩) hbw).trans g5⟩)
 have HSC:=Lib.hid (fun (W:World) (hb:Below wr.heap.size wr W)=>storeOf_spec _ _ _ t k W ((HK.out W (HBX.out.trans (hb.mono HBX.out.size))).2.2.1))
 have HNC:=Lib.hid (fun (W:World) (hb:Below wr.heap.size wr W) (aS:Option Addr) (cs:Nat) (hrs:RowE W aS (storeOfM t k).length (storeOfM t k)) (hzs:aS=none→cs=0)=>(by
  have:=nextBlock_spec y.bef y.hgt y.view y.root y.effs al ml cl y.acts aS _ cs (storeOfM t k) view a m c L W (rl.below hb) hrs hzs ((HK.out W (HBX.out.trans (hb.mono HBX.out.size))).2.2.2.1) hz HVW.out
  rw [show (⟨y.bef,y.hgt,y.view,y.acts,y.root,y.effs⟩:Blk)=y from rfl,HXE.out,HNB.out] at this
  exact this:Calls Tryz.prog 90 #[.agg #[.int .i64 y.bef,.int .i64 y.hgt,.int .i64 y.view,.slice al ml cl,.int .i64 y.root,.int .i64 y.effs],.slice aS (storeOfM t k).length cs,.int .i64 view,.slice a m c] W (NewBkB W 113 x nb)))
 have i1:(0:Int)≤(k:Int):=by omega
 have i2:(k:Int) < (n2:Int):=by omega
 have hk0:=HKP.out wr (Below.refl _ _)
 have hW1r:=HBX.out.size
 clear g0 g1 g2 g3 g4 g5 x0 x1 x2 rl hbw hxw
 go_cut [10,11] (fun s10 s11 wx=>∃ Z,s10 = .pointer (some ⟨Z,0,none⟩)∧s11 = .bool nb∧W1.heap.size≤Z∧GrB W1 wx Z x)
 case first =>
  obtain ⟨⟨y0,y1,y2⟩,k0,k1,k2,k3,k4,k5⟩:=hk0
  go_region_held3 (fun w'=>(w'.cell? ⟨w.heap.size,0,none⟩=some (.slice a1 n1 c1)∧w'.cell? ⟨w.heap.size,1,none⟩=some (.slice (some ⟨b2,off2,none⟩) n2 c2)∧w'.cell? ⟨w.heap.size,2,none⟩=some (.slice a3 n3 c3))∧w'.cell? ⟨b2,off2+k*6,none⟩=some (.int .i64 y.bef)∧w'.cell? ⟨b2,off2+k*6+1,none⟩=some (.int .i64 y.hgt)∧w'.cell? ⟨b2,off2+k*6+2,none⟩=some (.int .i64 y.view)∧w'.cell? ⟨b2,off2+k*6+3,none⟩=some (.slice al ml cl)∧w'.cell? ⟨b2,off2+k*6+4,none⟩=some (.int .i64 y.root)∧w'.cell? ⟨b2,off2+k*6+5,none⟩=some (.int .i64 y.effs))
   (first | (with_reducible exact ⟨⟨y0,y1,y2⟩,k0,k1,k2,k3,k4,k5⟩) | (with_reducible exact hkp) | (with_reducible exact hkp8) | ((with_reducible refine HKP.out _ ?_);(repeat' (with_reducible (first | exact hb8 | exact hb7 | exact Below.refl _ _ | refine Below.drew ?_ | refine Below.alloc ?_ hb8.size _ | refine Below.alloc ?_ hb7.size _ | refine Below.alloc ?_ (Nat.le_refl _) _ | refine below_storedG ?_ hb8.size _ _ | refine below_storedG ?_ hb7.size _ _ | refine below_storedG ?_ (Nat.le_refl _) _ _)));done))
   (first
    | (go_at_call 91;(with_reducible refine (HSC.out wr.drew (Below.refl _ _).drew).mono ?_);rintro e1 w7 ⟨v7,rfl,ho7,hwf7,hl7,hb7'⟩;obtain ⟨as7,cs7,rfl,rs7,hzs7⟩:=rowE_of_owns ho7 (Nat.le_trans hl7 (by decide)) hwf7;have hb7:Below wr.heap.size wr w7:=(Below.refl _ _).drew.trans hb7';have hkp:=HKP.out _ hb7)
    | (go_at_call 91;(with_reducible refine (HSC.out (wr.alloc (.cells #[.int .i64 0,.int .i64 0,.int .i64 0,.slice none 0 0,.int .i64 0,.int .i64 0] 37)).drew (((Below.refl _ _).alloc (Nat.le_refl _) _).drew)).mono ?_);rintro e1 w7 ⟨v7,rfl,ho7,hwf7,hl7,hb7'⟩;obtain ⟨as7,cs7,rfl,rs7,hzs7⟩:=rowE_of_owns ho7 (Nat.le_trans hl7 (by decide)) hwf7;have hb7:Below wr.heap.size wr w7:=(((Below.refl _ _).alloc (Nat.le_refl _) _).drew).trans (hb7'.mono (by simp));have hkp:=HKP.out _ hb7;have hea:=(bkAt_new wr 37 (.int .i64 0) (.int .i64 0) (.int .i64 0) (.slice none 0 0) (.int .i64 0) (.int .i64 0)).below ((Below.refl _ _).drew.trans hb7');have hes:wr.heap.size < w7.heap.size:=(by have:=hb7'.size;simp at this;omega))
    | (go_at_call 90;(with_reducible refine (HNC.out w7 hb7 as7 cs7 rs7 hzs7).mono ?_);rintro e2 w8 ⟨v8,rfl,ho8,hwa8,hwb8,hb8'⟩;obtain ⟨xa,xn,xc,rfl⟩:=slice_form ho8;have hb8:Below wr.heap.size wr w8:=hb7.trans (hb8'.mono hb7.size);have hkp8:=HKP.out _ hb8;try (have hea8:=hea.below hb8';obtain ⟨z0,z1,z2,z3,z4,z5,zf0,zf1,zf2,zf3,zf4,zf5⟩:=id hea8))
    | (go_at_call 90;(with_reducible refine (HNC.out (w7.alloc (.cells #[.int .i64 0,.int .i64 0,.int .i64 0,.slice none 0 0,.int .i64 0,.int .i64 0] 37)) (hb7.alloc hb7.size _) as7 cs7 (rs7.below ((Below.refl _ _).alloc (Nat.le_refl _) _)) hzs7).mono ?_);rintro e2 w8 ⟨v8,rfl,ho8,hwa8,hwb8,hb8'⟩;obtain ⟨xa,xn,xc,rfl⟩:=slice_form ho8;have hb8:Below wr.heap.size wr w8:=(hb7.alloc hb7.size _).trans (hb8'.mono (by have:=hb7.size;simp;omega));have hkp8:=HKP.out _ hb8;have heb8:=(bkAt_new w7 37 (.int .i64 0) (.int .i64 0) (.int .i64 0) (.slice none 0 0) (.int .i64 0) (.int .i64 0)).below hb8';obtain ⟨z0,z1,z2,z3,z4,z5,zf0,zf1,zf2,zf3,zf4,zf5⟩:=id heb8))
  all_goals
   have HB7:Hid (Below W1.heap.size W1 w7):=Lib.hid (HBX.out.trans (hb7.mono HBX.out.size))
  all_goals first
   | (have hF:=grB_set HB7.out hb8' hea8 hW1r hes ho8 hwa8 hwb8 HXL.out;go_wp2_with fail;go_meet;exact ⟨_,rfl,rfl,hW1r,hF⟩)
   | (have hF:=grB_set (HB7.out.alloc HB7.out.size _) hb8' heb8 HB7.out.size (by simp) ho8 hwa8 hwb8 HXL.out;go_wp2_with fail;go_meet;exact ⟨_,rfl,rfl,HB7.out.size,hF⟩)
   | (have hF:=grB_alloc (T:=37) HB7.out hb8' ho8 hwa8 hwb8 HXL.out;go_wp2_with fail;go_meet;exact ⟨_,rfl,rfl,Nat.le_trans HB7.out.size hb8'.size,hF⟩)
 case rest =>
  obtain ⟨Z,rfl,rfl,hZ,hG⟩:=hcut
  obtain ⟨xa,xn,xc,hZb,hra,hzx,hxn,hwx,hbx⟩:=hG
  have HGB:=Lib.hid hbx
  have HRA:=Lib.hid hra
  have HZB:=Lib.hid hZb
  have HWX:=Lib.hid hwx
  clear hk0 HKP HSC HNC hbx hra hZb hwx
  have HBX:=HGB
  cases nb with
  | false =>
   have HE:Hid (growM t k view L=(t,false)):=Lib.hid (growM_not HT.out HD.out (by rw [Int.toNat_natCast,HYA.out];exact HNB.out))
   go_upto_region 7 with (fail)
   obtain ⟨⟨x0,x1,x2,-⟩,-,hrdx,-,-⟩:=HK.out _ HBX.out
   have HRDX:=Lib.hid hrdx
   clear hrdx
   go_wp2_with fail
   refine (l13Copy_spec _ _ _ t _ HRDX.out HTW.out).mono ?_;rintro e w16 ⟨u1,u2,u3,ts2,rfl,hown16,hb16⟩
   obtain ⟨o1,o2,o3,o4,o5,o6,o7,o8,o9,rfl,rfl,rfl⟩:=trRd_form4 hown16.rd
   obtain ⟨-,hA16,-,-,hB16⟩:=HK.out w16 (HBX.out.trans (hb16.mono HBX.out.size))
   have HF:=Lib.hid (hA16.set3b (.slice o1 o2 o3) (.slice o4 o5 o6) (.slice o7 o8 o9))
   have ht16:=set3b_turn w16 (w.heap.size+1) (.slice o1 o2 o3) (.slice o4 o5 o6) (.slice o7 o8 o9)
   have HBF:=Lib.hid (ht16.below hB16 (by omega) hB16.size)
   have hxs:=HBX.out.size
   have HO:=Lib.hid ((hown16.turn ht16 (.inr (.inl (by have:=HZ2.out;omega)))).top.mono (B':=w.heap.size) (by have:=HZ2.out;omega) (Nat.le_refl _))
   unfold set3b at HF HBF HO
   obtain ⟨c0,c1',c2',f0,f1,f2⟩:=hA16
   clear hB16 ht16 x0 x1 x2 hown16 hb16 hxs
   go_wp2_with fail
   refine bodyPost_ret (results_treB Tryz.results124 _ (by rfl) HF.out (.bool false) (by rfl)) rfl ?_
   rw [HE.out]
   exact ⟨_,_,_,_,rfl,HO.out,HBF.out⟩
  | true =>
   have HE:Hid (growM t k view L=putT t x):=Lib.hid (by rw [growM_yes HT.out HD.out (by rw [Int.toNat_natCast,HYA.out];exact HNB.out),Int.toNat_natCast,HYA.out,HXE.out])
   obtain ⟨⟨x0,x1,x2,-⟩,-,hrdx,-,-⟩:=HK.out _ HBX.out
   have HRDX:=Lib.hid hrdx
   obtain ⟨q0,q1,q2,q3,q4,q5,-⟩:=HZB.out
   clear hrdx
   go_wp2_with fail
   refine (putBlock_spec _ _ _ t x xa xn xc _ HRDX.out HRA.out hzx HWX.out hxn).mono ?_;rintro e w16 ⟨u1,u2,u3,ts2,rfl,hown16,hb16⟩
   rw [← HE.out] at hown16
   obtain ⟨o1,o2,o3,o4,o5,o6,o7,o8,o9,rfl,rfl,rfl⟩:=trRd_form4 hown16.rd
   obtain ⟨-,hA16,-,-,hB16⟩:=HK.out w16 (HBX.out.trans (hb16.mono HBX.out.size))
   have HF:=Lib.hid (hA16.set3b (.slice o1 o2 o3) (.slice o4 o5 o6) (.slice o7 o8 o9))
   have ht16:=set3b_turn w16 (w.heap.size+1) (.slice o1 o2 o3) (.slice o4 o5 o6) (.slice o7 o8 o9)
   have HBF:=Lib.hid (ht16.below hB16 (by omega) hB16.size)
   have hxs:=HBX.out.size
   have HO:=Lib.hid ((hown16.turn ht16 (.inr (.inl (by have:=HZ2.out;omega)))).top.mono (B':=w.heap.size) (by have:=HZ2.out;omega) (Nat.le_refl _))
   unfold set3b at HF HBF HO
   obtain ⟨c0,c1',c2',f0,f1,f2⟩:=hA16
   clear hB16 ht16 x0 x1 x2 hown16 hb16 hxs q0 q1 q2 q3 q4 q5
   obtain ⟨pb,hpb⟩:∃ p,p=(putT t x).2:=⟨_,rfl⟩
   have HPB:=Lib.hid hpb
   rw [← hpb]
   clear hpb
   go_wp2_with fail
   refine bodyPost_ret (results_treB Tryz.results124 _ (by rfl) HF.out (.bool pb) (by rfl)) rfl ?_
   have e2:(growM t (k:Int) view L).2=pb:=by rw [HE.out,HPB.out]
   rw [e2]
   exact ⟨_,_,_,_,rfl,HO.out,HBF.out⟩
theorem perm4 (r1 r2 r3 r4:Rw):([r1]++[r2]++[r3]++[r4]).Perm [r1,r4,r3,r2]:=List.Perm.cons _ (List.reverse_perm [r2,r3,r4]).symm
set_option maxRecDepth 100000 in
set_option maxHeartbeats 4000000 in
theorem treeOf_spec (a:Option Addr) (n c:Nat) (S:List Ent) (w:World) (h:RowE w a n S) (hz:a=none→c=0) :
  Calls Tryz.prog 122 #[.slice a n c] w (NewTre w tTre (treOfM S)):=by
 obtain rfl:=h.1
 have hb0:=(Below.refl w.heap.size w).alloc (Nat.le_refl _) (.cells #[.slice none 0 0,.slice none 0 0,.slice none 0 0] 27)
 have hA:=trAt_new w 27 (.slice none 0 0) (.slice none 0 0) (.slice none 0 0)
 obtain ⟨W1,hW1⟩:∃ W1,W1=w.alloc (.cells #[.slice none 0 0,.slice none 0 0,.slice none 0 0] 27):=⟨_,rfl⟩
 have HW1:=Lib.hid hW1
 have hzz:w.heap.size < W1.heap.size:=by rw [hW1];simp
 rw [← hW1] at hb0 hA
 clear hW1
 have HA:=Lib.hid (fun (W:World) (hb:Below W1.heap.size W1 W)=>(⟨hA.below hb,hb0.trans (hb.mono hb0.size)⟩:TrAt W w.heap.size (.slice none 0 0) (.slice none 0 0) (.slice none 0 0)∧Below w.heap.size w W))
 have HS:=Lib.hid (h.below hb0)
 clear h hb0 hA
 go_enter Tryz.func122,Tryz.ntmps122
 go_upto_region 1 with (fail)
 rw [← HW1.out]
 clear HW1
 go_wp2_with fail
 refine (storeValid_spec a _ c S _ HS.out).mono ?_;rintro e w2 ⟨rfl,hd2⟩
 have hb2:=hd2.below W1.heap.size
 have HB2:=Lib.hid hb2
 clear hd2
 cases hs:storeB S with
 | false =>
  have HE:Hid (treOfM S=noTre):=Lib.hid (by unfold treOfM;rw [hs];rfl)
  obtain ⟨hA2,hB2⟩:=HA.out w2 hb2
  have HF:=Lib.hid (hA2.set3b (.slice none 0 0) (.slice none 0 0) (.slice none 0 0))
  have HBF:=Lib.hid ((set3b_turn w2 w.heap.size (.slice none 0 0) (.slice none 0 0) (.slice none 0 0)).below hB2 (Nat.le_refl _) hB2.size)
  unfold set3b at HF HBF
  obtain ⟨c0,c1,c2,f0,f1,f2⟩:=hA2
  clear hs hb2 hB2
  go_wp2_with fail
  refine bodyPost_ret (results_tre Tryz.results122 _ (by rfl) HF.out) rfl ⟨_,_,_,[],rfl,by rw [HE.out];exact treOwn_no _ _ _ _,HBF.out⟩
 | true =>
  have hsl:=store_len hs
  have hn:S.length≤3000000:=by omega
  have HTO:Hid (treOfM S=⟨S,[firstM S],[-1]⟩):=Lib.hid (by unfold treOfM;rw [if_pos hs])
  have HOK:Hid (blkB (firstM S)=true):=Lib.hid (firstM_ok hs)
  have HS2:=Lib.hid (HS.out.below hb2)
  have hs2:W1.heap.size≤w2.heap.size:=hb2.size
  have HSL:=Lib.hid hsl
  clear hs hb2 hsl
  have ho:=own_lit (w:=w2) (B:=w2.heap.size) 142 2 #[] 0 (Nat.le_refl _) (by unfold maxLen;omega) rfl
  have hb3:=(Below.refl w2.heap.size w2).alloc (Nat.le_refl _) (.cells #[] 142)
  have HR3:=Lib.hid (HS2.out.below hb3)
  have HNL:Hid (a=none→S.length=0∧c=0):=Lib.hid (fun e=>by
   refine ⟨?_,hz e⟩
   rcases Nat.eq_zero_or_pos S.length with e1 | e1
   · exact e1
   · obtain ⟨b,o,he,-⟩:=HS2.out.2.2.1 e1
     rw [e] at he;cases he)
  have HLN:=Lib.hid (flatE_len S)
  go_wp2_with (first | (at_builtin;refine wpList_append_rows rfl _ _ 23 rfl w2.heap.size 142 (.agg #[.int .i64 0,.int .i64 0]) 2 16 Tryz.underlying23 infoEnt rfl (by decide) _ 0 [] (flatE S) (by rfl) ho a S.length c (by rfl) HNL.out HLN.out HR3.out.news (flatE_oneCell S) (by omega) (by decide) (by simp) ?_;intro v5 w5 ho5 hg5;have hb5:=hb3.grown hg5 (by simp) (fun q hq=>(ho.1.lt q hq).1)))
  rw [Nat.zero_add,List.nil_append] at ho5
  obtain ⟨e1,e2,e3,he⟩:=slice_form ho5.1
  rw [he]
  rw [he] at ho5
  have HO5:=Lib.hid (ownR_single (r:=⟨.slice e1 e2 e3,142,2,S.length,flatE S⟩) ho5.1)
  have HB5:=Lib.hid hb5
  have HS5:=Lib.hid (HS2.out.below hb5)
  clear ho ho5 hg5 hb5 hb3 he
  refine (firstBlock_spec a _ c S _ HS5.out).mono ?_;rintro e w6 ⟨v6,rfl,ho6,hwa6,hwb6,hb6⟩
  obtain ⟨f1,f2,f3,rfl⟩:=slice_form ho6
  obtain ⟨x,hx⟩:∃ x,x=firstM S:=⟨_,rfl⟩
  rw [← hx] at ho6 hwa6 hwb6 HTO HOK
  rw [← hx]
  have HO6:=Lib.hid ((HO5.out.below hb6).append (ownR_single (r:=⟨.slice f1 f2 f3,113,4,x.acts.length,flatA x.acts⟩) ho6) (Nat.le_refl _) HB5.out.size hb6.size)
  have hl7:=own_lit (w:=w6) (B:=w6.heap.size) 37 6 #[.int .i64 x.bef,.int .i64 x.hgt,.int .i64 x.view,.slice f1 f2 f3,.int .i64 x.root,.int .i64 x.effs] 1 (Nat.le_refl _) (by unfold maxLen;omega) rfl
  have hb7:=(Below.refl w6.heap.size w6).alloc (Nat.le_refl _) (.cells #[.int .i64 x.bef,.int .i64 x.hgt,.int .i64 x.view,.slice f1 f2 f3,.int .i64 x.root,.int .i64 x.effs] 37)
  obtain ⟨w7,hw7⟩:∃ w7,w7=w6.alloc (.cells #[.int .i64 x.bef,.int .i64 x.hgt,.int .i64 x.view,.slice f1 f2 f3,.int .i64 x.root,.int .i64 x.effs] 37):=⟨_,rfl⟩
  rw [← hw7] at hl7 hb7
  have hl8:=own_lit (w:=w7) (B:=w7.heap.size) 3 1 #[.int .i64 (-1)] 1 (Nat.le_refl _) (by unfold maxLen;omega) rfl
  have hb8:=(Below.refl w7.heap.size w7).alloc (Nat.le_refl _) (.cells #[.int .i64 (-1)] 3)
  obtain ⟨w8,hw8⟩:∃ w8,w8=w7.alloc (.cells #[.int .i64 (-1)] 3):=⟨_,rfl⟩
  rw [← hw8] at hl8 hb8
  have HO7:=Lib.hid ((HO6.out.below hb7).append (ownR_single (r:=⟨.slice (some ⟨w6.heap.size,0,none⟩) 1 1,37,6,1,_⟩) hl7.1) (Nat.le_refl _) (Nat.le_trans HB5.out.size hb6.size) hb7.size)
  have HO8:=Lib.hid ((HO7.out.below hb8).append (ownR_single (r:=⟨.slice (some ⟨w7.heap.size,0,none⟩) 1 1,3,1,1,_⟩) hl8.1) (Nat.le_refl _) (Nat.le_trans HB5.out.size (Nat.le_trans hb6.size hb7.size)) hb8.size)
  have hrs:treRs tTre (.slice e1 e2 e3) (.slice (some ⟨w6.heap.size,0,none⟩) 1 1) (.slice (some ⟨w7.heap.size,0,none⟩) 1 1) ⟨S,[x],[-1]⟩ [.slice f1 f2 f3]=[⟨.slice e1 e2 e3,142,2,S.length,flatE S⟩,⟨.slice (some ⟨w7.heap.size,0,none⟩) 1 1,3,1,1,[.int .i64 (-1)]⟩,⟨.slice (some ⟨w6.heap.size,0,none⟩) 1 1,37,6,1,[.int .i64 x.bef,.int .i64 x.hgt,.int .i64 x.view,.slice f1 f2 f3,.int .i64 x.root,.int .i64 x.effs]⟩,⟨.slice f1 f2 f3,113,4,x.acts.length,flatA x.acts⟩]:=by rfl
  have HO9:Hid (OwnR w8 w2.heap.size w8.heap.size (treRs tTre (.slice e1 e2 e3) (.slice (some ⟨w6.heap.size,0,none⟩) 1 1) (.slice (some ⟨w7.heap.size,0,none⟩) 1 1) ⟨S,[x],[-1]⟩ [.slice f1 f2 f3])):=Lib.hid (by rw [hrs];exact HO8.out.perm (perm4 _ _ _ _))
  clear hrs
  have HB8:=Lib.hid (HB5.out.trans ((hb6.mono HB5.out.size).trans ((hb7.mono (Nat.le_trans HB5.out.size hb6.size)).trans (hb8.mono (Nat.le_trans HB5.out.size (Nat.le_trans hb6.size hb7.size))))))
  have HSZ7:Hid (w7.heap.size=w6.heap.size+1):=Lib.hid (by rw [hw7];simp)
  obtain ⟨hA8,hB8⟩:=HA.out w8 (HB2.out.trans (HB8.out.mono HB2.out.size))
  have ht:=set3b_turn w8 w.heap.size (.slice e1 e2 e3) (.slice (some ⟨w6.heap.size,0,none⟩) 1 1) (.slice (some ⟨w7.heap.size,0,none⟩) 1 1)
  have HF:=Lib.hid (hA8.set3b (.slice e1 e2 e3) (.slice (some ⟨w6.heap.size,0,none⟩) 1 1) (.slice (some ⟨w7.heap.size,0,none⟩) 1 1))
  have HBF:=Lib.hid (ht.below hB8 (Nat.le_refl _) hB8.size)
  have HOF:=Lib.hid ((HO9.out.turn ht (.inr (.inl (by omega)))).top.mono (show w.heap.size≤w2.heap.size by omega) (Nat.le_refl _))
  have HWF:Hid (TreWf ⟨S,[x],[-1]⟩):=Lib.hid ⟨HS2.out.2.2.2,fun y hy=>by simp at hy;subst hy;rfl,⟨fun y hy=>by simp at hy;subst hy;exact ⟨hwb6,hwa6,by have:=(actsB_true (blkB_true HOK.out).2.2.2.2.2).1;omega⟩,by simp⟩,by have:=HSL.out;simp only;omega,by simp⟩
  unfold set3b at HF HBF HOF
  obtain ⟨c0,c1,c2,g0,g1,g2⟩:=hA8
  rw [hw8] at c0 c1 c2 g0 g1 g2 HF HBF HOF
  rw [HSZ7.out] at HF HBF HOF
  rw [hw7] at c0 c1 c2 g0 g1 g2 HF HBF HOF
  clear hb6 hb7 hb8 hl7 hl8 hB8 ht HA HO5 HO6 HO7 HO8 HO9 hw7 hw8 HSZ7 ho6 hwa6 hwb6 hx
  go_wp2_with fail
  refine bodyPost_ret (results_tre Tryz.results122 _ (by rfl) HF.out) rfl ⟨_,_,_,[.slice f1 f2 f3],rfl,?_,HBF.out⟩
  rw [HTO.out]
  exact ⟨rfl,HOF.out,HWF.out⟩
end Go.Proofs.YtpnjgmgmakmgeaaGreat

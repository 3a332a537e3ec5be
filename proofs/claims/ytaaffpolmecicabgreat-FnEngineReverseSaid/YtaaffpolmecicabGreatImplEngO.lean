/- The contract of the program's EngineOf (gen11/engof.py). -/
import Derived.Test.YtaaffpolmecicabGreatCopG
import Derived.Test.YtaaffpolmecicabGreatTwo
import Derived.Test.YtaaffpolmecicabGreatFive
import Derived.Deep.Cut
namespace Go.Proofs.YtaaffpolmecicabGreat
open Go.RowKit
set_option linter.unusedVariables false
set_option linter.unusedSimpArgs false
set_option maxRecDepth 100000 in
set_option maxHeartbeats 4000000 in
theorem engineOf_impl (a:Option Addr) (n c:Nat) (S:List Ent) (b:Option Addr) (m d:Nat) (L:List Acn) (w:World) (h1:RowE w a n S) (hz1:a=none→c=0) (h2:RowA w b m L) (hz2:b=none→d=0) :
  Calls Tryz.prog 38 #[.slice a n c,.slice b m d] w (NewEng w tEng (engOfM S L)):=by
 have HWS:=Lib.hid h1.2.2.2
 have HWL:=Lib.hid h2.2.2.2
 have hb0:=(Below.refl w.heap.size w).alloc (Nat.le_refl _) (.cells #[.slice none 0 0,.slice none 0 0,.slice none 0 0,.slice none 0 0] 57)
 have hz0:=egAt_new w 57 (.slice none 0 0) (.slice none 0 0) (.slice none 0 0) (.slice none 0 0)
 go_enter Tryz.func38,Tryz.ntmps38
 go_wp2_with fail
 obtain ⟨wa,hwa⟩:∃ wa,wa=w.alloc (.cells #[.slice none 0 0,.slice none 0 0,.slice none 0 0,.slice none 0 0] 57):=⟨_,rfl⟩
 rw [← hwa] at hb0 hz0 ⊢
 have h1a:=h1.below hb0
 have h2a:=h2.below hb0
 clear hwa h1 h2
 refine (storeValid_impl a n c S _ h1a).mono ?_;rintro e wb ⟨rfl,hbb⟩
 have h1b:=h1a.below hbb
 have h2b:=h2a.below hbb
 have hzb:=hz0.below hbb
 have hb1:=hb0.trans (hbb.mono hb0.size)
 clear h1a h2a hz0 hbb hb0
 cases hS:storeB S with
 | false =>
  have HF:=Lib.hid (engOfM_no (S:=S) (L:=L) (by rw [hS];rfl))
  have HE:=Lib.hid (hzb.set4 (.slice none 0 0) (.slice none 0 0) (.slice none 0 0) (.slice none 0 0))
  have HB:Hid (Below w.heap.size w (set4 wb w.heap.size (.slice none 0 0) (.slice none 0 0) (.slice none 0 0) (.slice none 0 0))):=Lib.hid ((set4_turn wb w.heap.size _ _ _ _).below hb1 (Nat.le_refl _) hb1.size)
  unfold set4 at HE HB
  obtain ⟨z0,z1,z2,z3,f0,f1,f2,f3⟩:=hzb
  clear hS h1b h2b hb1
  go_wp2_with fail
  refine bodyPost_ret (results_eng Tryz.results38 _ (by rfl) HE.out) rfl ⟨_,_,_,_,[],rfl,by rw [HF.out];exact engOwn_no _ _ _ _,HB.out⟩
 | true =>
  go_wp2_with fail
  refine (actionsValid_impl b m d L _ h2b).mono ?_;rintro e w0 ⟨rfl,hbc⟩
  have h1c:=h1b.below hbc
  have h2c:=h2b.below hbc
  have hzc:=hzb.below hbc
  have hb2:=hb1.trans (hbc.mono hb1.size)
  clear h1b h2b hzb hb1 hbc
  cases hA:actsB L with
  | false =>
   have HF:=Lib.hid (engOfM_no (S:=S) (L:=L) (by rw [hS,hA];rfl))
   have HE:=Lib.hid (hzc.set4 (.slice none 0 0) (.slice none 0 0) (.slice none 0 0) (.slice none 0 0))
   have HB:Hid (Below w.heap.size w (set4 w0 w.heap.size (.slice none 0 0) (.slice none 0 0) (.slice none 0 0) (.slice none 0 0))):=Lib.hid ((set4_turn w0 w.heap.size _ _ _ _).below hb2 (Nat.le_refl _) hb2.size)
   unfold set4 at HE HB
   obtain ⟨z0,z1,z2,z3,f0,f1,f2,f3⟩:=hzc
   clear hS hA h1c h2c hb2
   go_wp2_with fail
   refine bodyPost_ret (results_eng Tryz.results38 _ (by rfl) HE.out) rfl ⟨_,_,_,_,[],rfl,by rw [HF.out];exact engOwn_no _ _ _ _,HB.out⟩
  | true =>
   have HF:=Lib.hid (engOfM_yes hS hA)
   have hn4:n≤4000000:=by have:=store_len hS;have:=h1c.1;omega
   have hm4:m≤4000000:=by have:=(actsB_true hA).1;have:=h2c.1;omega
   have HL1:Hid ((flatE S).length=n*2):=Lib.hid (by rw [flatE_len,h1c.1])
   have HL2:Hid ((flatA L).length=m*4):=Lib.hid (by rw [flatA_len,h2c.1])
   have HSn:=Lib.hid h1c.1
   have HLm:=Lib.hid h2c.1
   have HN1:Hid (a=none→n=0∧c=0):=Lib.hid (fun he=>by
    refine ⟨?_,hz1 he⟩
    rcases Nat.eq_zero_or_pos n with h | h
    · exact h
    · obtain ⟨b1,o1,h3,_⟩:=h1c.2.2.1 h
      rw [he] at h3;cases h3)
   have HN2:Hid (b=none→m=0∧d=0):=Lib.hid (fun he=>by
    refine ⟨?_,hz2 he⟩
    rcases Nat.eq_zero_or_pos m with h | h
    · exact h
    · obtain ⟨b1,o1,h3,_⟩:=h2c.2.2.1 h
      rw [he] at h3;cases h3)
   have HW1:=Lib.hid (fun (W:World) (hb:Below w0.heap.size w0 W)=>h1c.below hb)
   have HW2:=Lib.hid (fun (W:World) (hb:Below w0.heap.size w0 W)=>h2c.below hb)
   have HZ:=Lib.hid (fun (W:World) (hb:Below w0.heap.size w0 W)=>hzc.below hb)
   have HB2:=Lib.hid hb2
   have hzl:=hzc.lt
   have hn3:n≤3000000:=by have:=store_len hS;have:=h1c.1;omega
   have hm3:m≤3000000:=by have:=(actsB_true hA).1;have:=h2c.1;omega
   clear hS hA h1c h2c hzc hb2
   go_upto_region 3 with (fail)
   -- REGION
   refine wp_region_light (by kernel_rfl) (LastJ (fun lz fz wz=>Vals [(0,14,(.slice a n c)),(2,16,(.slice b m d)),(4,18,(.slice b m d)),(5,19,(.int .i64 (m:Int)))] lz fz∧Deps [(⟨7,21,[(1,15),(3,17),(6,20)],fun f=>.agg #[f 15,f 17,.slice none 0 0,f 20],fun f g h=>by simp at h;simp [h]⟩:DepT)] lz fz∧RowsJ w0 [(⟨1,none,15,43,2,n,(flatE S)⟩:RowT),(⟨3,none,17,87,4,m,(flatA L)⟩:RowT),(⟨6,none,20,75,6,m,((madeCells (Value.agg #[.int .i64 0,.int .i64 0,.slice none 0 0,.bool false,.slice none 0 0,.slice none 0 0]).cells (m*6)).toList)⟩:RowT)] lz fz wz) 8 9 (fun _ wz=>∃ (w1:World) (v1 v2 v4:Value),OwnR w1 w0.heap.size w1.heap.size [⟨v1,43,2,n,flatE S⟩,⟨v2,87,4,m,flatA L⟩,⟨v4,75,6,m,(madeCells (Value.agg #[.int .i64 0,.int .i64 0,.slice none 0 0,.bool false,.slice none 0 0,.slice none 0 0]).cells (m*6)).toList⟩]∧Below w0.heap.size w0 w1∧wz=set4 w1 w.heap.size v1 v2 (.slice none 0 0) v4)) 22 rfl [14,15,16,17,18,19,20,21] (by kernel_rfl) (by kernel_rfl) (by kernel_rfl) (fun f=>LastJ.nothing ⟨Vals.nothing _ f,Deps.nothing _ f,RowsJ.nothing _ _ f⟩) ?_ ?_
   · intro i hi
     rcases (by have:i < 9:=hi;omega:i=0∨i=1∨i=2∨i=3∨i=4∨i=5∨i=6∨i=7∨i=8) with rfl | rfl | rfl | rfl | rfl | rfl | rfl | rfl | rfl
     · clear hi;intro o ho lz fz w' A hJ hli ha hA K hK
       obtain ⟨hv,hd,hq⟩:=hJ.now (i:=0) (by omega) hli
       obtain rfl:=Option.some.inj ho
       clear ho
       have hB:=hq.below
       have g0:=slot_out hA 0 _ (by decide) (by decide) rfl
       simp only [List.getD_cons_succ,List.getD_cons_zero] at g0
       have gg0:=slot_get g0
       rw [if_pos (by rfl)]
       have hF:=hK (.slice a n c) w' (LastJ.step hJ 0 (by omega) hli (by decide) ⟨hv.step 0 14 _ (by simp),hd.step 0 14 _ hli (by simp [allR]),hq.still 0 14 _ (Below.refl _ _) (by simp)⟩)
       clear hv hq ha hK hA hli hd hB hJ
       go_simp
       exact hF
     · clear hi;intro o ho lz fz w' A hJ hli ha hA K hK
       obtain ⟨hv,hd,hq⟩:=hJ.now (i:=1) (by omega) hli
       obtain rfl:=Option.some.inj ho
       clear ho
       have hB:=hq.below
       have g14:=slot_in hA 14 (by decide) (by decide) (hv (0,14,(.slice a n c)) (by simp) (ha 0 (by simp [aftersOf,Region.binds])))
       have gg14:=slot_get g14
       rw [if_pos (by rfl)]
       have hh:=HW1.out w' hB
       clear hA
       go_simp
       refine (cloneE_any a n c S w' hh hz1 hn3).mono ?_
       rintro e9 w9 ⟨v9,rfl,ho9,hb9⟩
       exact hK v9 w9 (LastJ.step hJ 1 (by omega) hli (by decide) ⟨hv.step 1 15 _ (by simp),hd.step 1 15 _ hli (by simp [allR]),hq.new 1 15 _ hb9 (by simp;exact ho9)⟩)
     · clear hi;intro o ho lz fz w' A hJ hli ha hA K hK
       obtain ⟨hv,hd,hq⟩:=hJ.now (i:=2) (by omega) hli
       obtain rfl:=Option.some.inj ho
       clear ho
       have hB:=hq.below
       have g1:=slot_out hA 1 _ (by decide) (by decide) rfl
       simp only [List.getD_cons_succ,List.getD_cons_zero] at g1
       have gg1:=slot_get g1
       rw [if_pos (by rfl)]
       have hF:=hK (.slice b m d) w' (LastJ.step hJ 2 (by omega) hli (by decide) ⟨hv.step 2 16 _ (by simp),hd.step 2 16 _ hli (by simp [allR]),hq.still 2 16 _ (Below.refl _ _) (by simp)⟩)
       clear hv hq ha hK hA hli hd hB hJ
       go_simp
       exact hF
     · clear hi;intro o ho lz fz w' A hJ hli ha hA K hK
       obtain ⟨hv,hd,hq⟩:=hJ.now (i:=3) (by omega) hli
       obtain rfl:=Option.some.inj ho
       clear ho
       have hB:=hq.below
       have g16:=slot_in hA 16 (by decide) (by decide) (hv (2,16,(.slice b m d)) (by simp) (ha 2 (by simp [aftersOf,Region.binds])))
       have gg16:=slot_get g16
       rw [if_pos (by rfl)]
       have hh:=HW2.out w' hB
       clear hA
       go_simp
       refine (cloneA_any b m d L w' hh hz2 hm3).mono ?_
       rintro e9 w9 ⟨v9,rfl,ho9,hb9⟩
       exact hK v9 w9 (LastJ.step hJ 3 (by omega) hli (by decide) ⟨hv.step 3 17 _ (by simp),hd.step 3 17 _ hli (by simp [allR]),hq.new 3 17 _ hb9 (by simp;exact ho9)⟩)
     · clear hi;intro o ho lz fz w' A hJ hli ha hA K hK
       obtain ⟨hv,hd,hq⟩:=hJ.now (i:=4) (by omega) hli
       obtain rfl:=Option.some.inj ho
       clear ho
       have hB:=hq.below
       have g1:=slot_out hA 1 _ (by decide) (by decide) rfl
       simp only [List.getD_cons_succ,List.getD_cons_zero] at g1
       have gg1:=slot_get g1
       rw [if_pos (by rfl)]
       have hF:=hK (.slice b m d) w' (LastJ.step hJ 4 (by omega) hli (by decide) ⟨hv.step 4 18 _ (by simp),hd.step 4 18 _ hli (by simp [allR]),hq.still 4 18 _ (Below.refl _ _) (by simp)⟩)
       clear hv hq ha hK hA hli hd hB hJ
       go_simp
       exact hF
     · clear hi;intro o ho lz fz w' A hJ hli ha hA K hK
       obtain ⟨hv,hd,hq⟩:=hJ.now (i:=5) (by omega) hli
       obtain rfl:=Option.some.inj ho
       clear ho
       have hB:=hq.below
       have g18:=slot_in hA 18 (by decide) (by decide) (hv (4,18,(.slice b m d)) (by simp) (ha 4 (by simp [aftersOf,Region.binds])))
       have gg18:=slot_get g18
       rw [if_pos (by rfl)]
       have hF:=hK (.int .i64 (m:Int)) w' (LastJ.step hJ 5 (by omega) hli (by decide) ⟨hv.step 5 19 _ (by simp),hd.step 5 19 _ hli (by simp [allR]),hq.still 5 19 _ (Below.refl _ _) (by simp)⟩)
       clear hv hq ha hK hA hli hd hB hJ
       go_simp
       exact hF
     · clear hi;intro o ho lz fz w' A hJ hli ha hA K hK
       obtain ⟨hv,hd,hq⟩:=hJ.now (i:=6) (by omega) hli
       obtain rfl:=Option.some.inj ho
       clear ho
       have hB:=hq.below
       have g19:=slot_in hA 19 (by decide) (by decide) (hv (5,19,(.int .i64 (m:Int))) (by simp) (ha 5 (by simp [aftersOf,Region.binds])))
       have gg19:=slot_get g19
       rw [if_pos (by rfl)]
       refine wp_make_full (.tmp 19) (.tmp 19) 55 rfl 75 (.agg #[.int .i64 0,.int .i64 0,.slice none 0 0,.bool false,.slice none 0 0,.slice none 0 0]) 6 96 Tryz.underlying55 infoSlot m (by rw [slot_eval g19]) (by rw [slot_eval g19]) hm4 (by decide) ?_
       intro w9 ho9 hb9
       exact hK _ w9 (LastJ.step hJ 6 (by omega) hli (by decide) ⟨hv.step 6 20 _ (by simp),hd.step 6 20 _ hli (by simp [allR]),hq.new 6 20 _ hb9 (by simp;exact ho9)⟩)
     · clear hi;intro o ho lz fz w' A hJ hli ha hA K hK
       obtain ⟨hv,hd,hq⟩:=hJ.now (i:=7) (by omega) hli
       obtain rfl:=Option.some.inj ho
       clear ho
       have hB:=hq.below
       have g15:A.tmps.getD 15 undef=fz 15:=slot_in hA 15 (by decide) (by decide) rfl
       have g17:A.tmps.getD 17 undef=fz 17:=slot_in hA 17 (by decide) (by decide) rfl
       have g20:A.tmps.getD 20 undef=fz 20:=slot_in hA 20 (by decide) (by decide) rfl
       have gg15:=slot_get g15
       have gg17:=slot_get g17
       have gg20:=slot_get g20
       rw [if_pos (by rfl)]
       have hF:=hK (.agg #[fz 15,fz 17,.slice none 0 0,fz 20]) w' (LastJ.step hJ 7 (by omega) hli (by decide) ⟨hv.step 7 21 _ (by simp),hd.step 7 21 _ hli (by simp [allR,ha 1 (by simp [aftersOf,Region.binds]),ha 3 (by simp [aftersOf,Region.binds]),ha 6 (by simp [aftersOf,Region.binds])]),hq.still 7 21 _ (Below.refl _ _) (by simp)⟩)
       have o15:=hq.at (t:=⟨1,none,15,43,2,n,(flatE S)⟩) (by simp) (ha 1 (by simp [aftersOf,Region.binds])) (by rfl)
       obtain ⟨p15,q15,k15,e15⟩:=slice_form o15
       simp only at e15
       rw [e15] at g15 gg15 hF
       clear o15
       have o17:=hq.at (t:=⟨3,none,17,87,4,m,(flatA L)⟩) (by simp) (ha 3 (by simp [aftersOf,Region.binds])) (by rfl)
       obtain ⟨p17,q17,k17,e17⟩:=slice_form o17
       simp only at e17
       rw [e17] at g17 gg17 hF
       clear o17
       have o20:=hq.at (t:=⟨6,none,20,75,6,m,((madeCells (Value.agg #[.int .i64 0,.int .i64 0,.slice none 0 0,.bool false,.slice none 0 0,.slice none 0 0]).cells (m*6)).toList)⟩) (by simp) (ha 6 (by simp [aftersOf,Region.binds])) (by rfl)
       obtain ⟨p20,q20,k20,e20⟩:=slice_form o20
       simp only at e20
       rw [e20] at g20 gg20 hF
       clear o20
       clear hv hq ha hK hA hli hd hB hJ
       go_simp
       exact hF
     · clear hi;intro o ho lz fz w' A hJ hli ha hA K hK
       obtain ⟨hv,hd,hq⟩:=hJ.now (i:=8) (by omega) hli
       obtain rfl:=Option.some.inj ho
       clear ho
       have hB:=hq.below
       have g4:=slot_out hA 4 _ (by decide) (by decide) rfl
       simp only [List.getD_cons_succ,List.getD_cons_zero] at g4
       have hd21:=(hd (⟨7,21,[(1,15),(3,17),(6,20)],fun f=>.agg #[f 15,f 17,.slice none 0 0,f 20],fun f g h=>by simp at h;simp [h]⟩:DepT) (by simp) (ha 7 (by simp [aftersOf,Region.binds]))).2
       simp only at hd21
       have g21:A.tmps.getD 21 undef=fz 21:=slot_in hA 21 (by decide) (by decide) rfl
       have gg4:=slot_get g4
       have gg21:=slot_get g21
       rw [if_pos (by rfl)]
       have hall:∀ k,k < 8→lz k=true:=fun k hk=>ha k (by have hk2:k < 8:=hk;rcases (by omega:k=0∨k=1∨k=2∨k=3∨k=4∨k=5∨k=6∨k=7) with rfl | rfl | rfl | rfl | rfl | rfl | rfl | rfl <;> simp [aftersOf,Region.binds])
       have hR:=hq.list [(⟨1,none,15,43,2,n,(flatE S)⟩:RowT),(⟨3,none,17,87,4,m,(flatA L)⟩:RowT),(⟨6,none,20,75,6,m,((madeCells (Value.agg #[.int .i64 0,.int .i64 0,.slice none 0 0,.bool false,.slice none 0 0,.slice none 0 0]).cells (m*6)).toList)⟩:RowT)] (by simp [RowT.live,hall 1 (by decide),hall 3 (by decide),hall 6 (by decide)]) (by simp)
       simp only [List.map_cons,List.map_nil,RowT.row] at hR
       obtain ⟨p15,q15,k15,e15⟩:=slice_form hR.head
       simp only at e15
       obtain ⟨p17,q17,k17,e17⟩:=slice_form hR.tail.head
       simp only at e17
       obtain ⟨p20,q20,k20,e20⟩:=slice_form hR.tail.tail.head
       simp only at e20
       rw [e15,e17,e20] at hd21 hR
       rw [hd21] at g21 gg21
       have hz:=HZ.out w' hB
       obtain ⟨z0,z1,z2,z3,f0,f1,f2,f3⟩:=hz
       clear hd21
       have hF:=hK undef _ (LastJ.last (fun i hi hne=>hall i (by omega)) ⟨w',_,_,_,hR,hB,rfl⟩)
       clear hv hq ha hK hA hli hd hB hJ hall hR
       unfold set4 at hF
       go_simp
       exact hF
   · intro lz fz w5 hall hJ
     have hfin:=(hJ.2 (hall 8 (by decide))).2
     simp only [mixF,List.contains_cons,List.contains_nil]
     go_simp
     obtain ⟨w1,v1,v2,v4,hR,hb1,rfl⟩:=hfin
     have hs2:=HB2.out.size
     have HE:=Lib.hid ((HZ.out w1 hb1).set4 v1 v2 (.slice none 0 0) v4)
     have HB:Hid (Below w.heap.size w (set4 w1 w.heap.size v1 v2 (.slice none 0 0) v4)):=Lib.hid ((set4_turn w1 w.heap.size _ _ _ _).below (HB2.out.trans (hb1.mono hs2)) (by omega) (by have:=hb1.size;omega))
     have hR2:=hR.turn (set4_turn w1 w.heap.size v1 v2 (.slice none 0 0) v4) (.inr (.inl hzl))
     have HO:Hid (EngOwn (set4 w1 w.heap.size v1 v2 (.slice none 0 0) v4) w.heap.size (set4 w1 w.heap.size v1 v2 (.slice none 0 0) v4).heap.size tEng v1 v2 (.slice none 0 0) v4 ⟨S,L,[],List.replicate L.length noSlt⟩ (List.replicate L.length nil3)):=Lib.hid (by
      have e1:=HSn.out
      have e2:=HLm.out
      subst e1 e2
      exact (engOwn_new (t:=tEng) hR2 HWS.out HWL.out hn4 hm4).mono hs2 (by rw [set4_size];exact Nat.le_refl _))
     unfold set4 at HE HB HO ⊢
     clear hR hR2 hb1
     go_wp2_with fail
     refine bodyPost_ret (results_eng Tryz.results38 _ (by rfl) HE.out) rfl ⟨_,_,_,_,_,rfl,by rw [HF.out];exact HO.out,HB.out⟩
   -- END REGION
end Go.Proofs.YtaaffpolmecicabGreat

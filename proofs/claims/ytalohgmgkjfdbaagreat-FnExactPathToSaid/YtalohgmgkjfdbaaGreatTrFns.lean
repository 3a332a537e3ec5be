/- The contracts of the program's BlockTreeValid and FindBlock,and of the model's FindBlock (gen16/lawtr.py). -/
import Derived.Test.YtalohgmgkjfdbaaGreatImplTr4
import Derived.Test.YtalohgmgkjfdbaaGreatSpecTr2
namespace Go.Proofs.YtalohgmgkjfdbaaGreat
open Go.RowKit
set_option linter.unusedVariables false
set_option linter.unusedSimpArgs false
theorem findTM_no {t:Tre} {s:Int} (h:treB t=false):findTM t s = -1:=by unfold findTM;rw [h];rfl
theorem findTM_yes {t:Tre} {s:Int} (h:treB t=true):findTM t s=findL t.blocks s:=by unfold findTM;rw [h];rfl
theorem blockTreeValid_impl (v1 v2 v3:Value) (t:Tre) (w:World) (h:TreRd w v1 v2 v3 t) :
  Calls Tryz.prog 27 #[.agg #[v1,v2,v3]] w (BoolB (treB t) w):=by
 have hrd:=h
 obtain ⟨⟨a1,n1,c1,rfl,-⟩,⟨a2,n2,c2,rfl,-⟩,a3,n3,c3,rfl,-⟩:=h
 have hb0:=(Below.refl w.heap.size w).alloc (Nat.le_refl _) (.cells #[.slice a1 n1 c1,.slice a2 n2 c2,.slice a3 n3 c3] 28)
 have hg0:=trAt_new w 28 (.slice a1 n1 c1) (.slice a2 n2 c2) (.slice a3 n3 c3)
 have hr0:=hrd.below hb0
 obtain ⟨W1,hW1⟩:∃ W1,W1=w.alloc (.cells #[.slice a1 n1 c1,.slice a2 n2 c2,.slice a3 n3 c3] 28):=⟨_,rfl⟩
 have HW1:=Lib.hid hW1
 rw [← hW1] at hb0 hg0 hr0
 clear hW1 hrd
 have HB:=Lib.hid hb0
 have HRD:=Lib.hid hr0
 have HG:=Lib.hid hg0
 obtain ⟨x0,x1,x2,-⟩:=hg0
 clear hb0 hr0
 go_enter Tryz.func27,Tryz.ntmps27
 go_upto_region 1 with (fail)
 rw [← HW1.out]
 clear HW1
 go_wp2_with fail
 refine (indexedTreeOf_impl _ _ _ t _ HRD.out).mono ?_;rintro e w2 ⟨hb2,hno,hyes⟩
 have HBF:=Lib.hid (HB.out.trans (hb2.mono HB.out.size))
 cases ht:treB t with
 | false =>
  obtain rfl:=hno ht
  clear hno hyes hb2
  go_wp2_with fail
  go_ret
  exact ⟨by first | rfl | (rw [ht];rfl),HBF.out⟩
 | true =>
  obtain ⟨Z,m,u1,u2,u3,ts,rfl,-⟩:=hyes ht
  clear hno hyes hb2
  go_wp2_with fail
  go_ret
  exact ⟨by first | rfl | (rw [ht];rfl),HBF.out⟩
theorem findBlock_impl (v1 v2 v3:Value) (t:Tre) (s:Int) (w:World) (h:TreRd w v1 v2 v3 t) (hs:(Lit.int .i64 s).wf=true) :
  Calls Tryz.prog 29 #[.agg #[v1,v2,v3],.int .i64 s] w (IntB (findTM t s) w):=by
 have hrd:=h
 obtain ⟨⟨a1,n1,c1,rfl,-⟩,⟨a2,n2,c2,rfl,-⟩,a3,n3,c3,rfl,-⟩:=h
 have hb0:=(Below.refl w.heap.size w).alloc (Nat.le_refl _) (.cells #[.slice a1 n1 c1,.slice a2 n2 c2,.slice a3 n3 c3] 28)
 have hg0:=trAt_new w 28 (.slice a1 n1 c1) (.slice a2 n2 c2) (.slice a3 n3 c3)
 have hr0:=hrd.below hb0
 obtain ⟨W1,hW1⟩:∃ W1,W1=w.alloc (.cells #[.slice a1 n1 c1,.slice a2 n2 c2,.slice a3 n3 c3] 28):=⟨_,rfl⟩
 have HW1:=Lib.hid hW1
 rw [← hW1] at hb0 hg0 hr0
 clear hW1 hrd
 have HB:=Lib.hid hb0
 have HRD:=Lib.hid hr0
 have HG:=Lib.hid hg0
 obtain ⟨x0,x1,x2,-⟩:=hg0
 clear hb0 hr0
 go_enter Tryz.func29,Tryz.ntmps29
 go_upto_region 1 with (fail)
 rw [← HW1.out]
 clear HW1
 go_wp2_with fail
 refine (indexedTreeOf_impl _ _ _ t _ HRD.out).mono ?_;rintro e w2 ⟨hb2,hno,hyes⟩
 have HBF:=Lib.hid (HB.out.trans (hb2.mono HB.out.size))
 cases ht:treB t with
 | false =>
  have HF:=Lib.hid (findTM_no (s:=s) ht)
  obtain rfl:=hno ht
  clear hno hyes hb2 ht
  go_wp2_with fail
  go_ret
  exact ⟨by rw [HF.out];rfl,HBF.out⟩
 | true =>
  have HF:=Lib.hid (findTM_yes (s:=s) ht)
  obtain ⟨Z,m,u1,u2,u3,ts,rfl,hix⟩:=hyes ht
  have HIX:=Lib.hid hix
  clear hno hyes hb2 ht hix
  go_wp2_with fail
  refine (numberOf_impl Z m _ _ _ _ t.blocks s _ HIX.out.box HIX.out.map hs).mono ?_;rintro e w3 ⟨rfl,rfl⟩
  go_wp2_with fail
  go_ret
  exact ⟨by rw [HF.out];rfl,HBF.out⟩
theorem findBlock_spec (v1 v2 v3:Value) (t:Tre) (s:Int) (w:World) (h:TreRd w v1 v2 v3 t) :
  Calls Tryz.prog 28 #[.agg #[v1,v2,v3],.int .i64 s] w (IntB (findTM t s) w):=by
 have hrd:=h
 obtain ⟨⟨a1,n1,c1,rfl,-⟩,⟨a2,n2,c2,rfl,-⟩,a3,n3,c3,rfl,-⟩:=h
 have hb0:=(Below.refl w.heap.size w).alloc (Nat.le_refl _) (.cells #[.slice a1 n1 c1,.slice a2 n2 c2,.slice a3 n3 c3] 28)
 have hg0:=trAt_new w 28 (.slice a1 n1 c1) (.slice a2 n2 c2) (.slice a3 n3 c3)
 have hr0:=hrd.below hb0
 obtain ⟨W1,hW1⟩:∃ W1,W1=w.alloc (.cells #[.slice a1 n1 c1,.slice a2 n2 c2,.slice a3 n3 c3] 28):=⟨_,rfl⟩
 have HW1:=Lib.hid hW1
 rw [← hW1] at hb0 hg0 hr0
 clear hW1 hrd
 have HB:=Lib.hid hb0
 have HRD:=Lib.hid hr0
 have HG:=Lib.hid hg0
 obtain ⟨x0,x1,x2,-⟩:=hg0
 clear hb0 hr0
 go_enter Tryz.func28,Tryz.ntmps28
 go_upto_region 1 with (fail)
 rw [← HW1.out]
 clear HW1
 go_wp2_with fail
 refine (blockTreeValid_spec _ _ _ t _ HRD.out).mono ?_;rintro e w2 ⟨rfl,hb2⟩
 have HB2:=Lib.hid (HB.out.trans (hb2.mono HB.out.size))
 have HRD2:=Lib.hid (HRD.out.below hb2)
 obtain ⟨y0,y1,y2,-⟩:=HG.out.below hb2
 clear x0 x1 x2 hb2
 cases ht:treB t with
 | false =>
  have HF:=Lib.hid (findTM_no (s:=s) ht)
  clear ht
  go_wp2_with fail
  go_ret
  exact ⟨by rw [HF.out];rfl,HB2.out⟩
 | true =>
  have HF:=Lib.hid (findTM_yes (s:=s) ht)
  clear ht
  go_wp2_with fail
  refine (l13Find_spec _ _ _ t s _ HRD2.out).mono ?_;rintro e w3 ⟨rfl,hb3⟩
  have HB3:=Lib.hid (HB2.out.trans (hb3.mono HB2.out.size))
  clear hb3 y0 y1 y2
  go_wp2_with fail
  go_ret
  exact ⟨by rw [HF.out];rfl,HB3.out⟩
end Go.Proofs.YtalohgmgkjfdbaaGreat

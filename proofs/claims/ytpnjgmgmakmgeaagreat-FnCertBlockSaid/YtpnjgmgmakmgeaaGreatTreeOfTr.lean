/- The contracts of TreeOf,the program's and the model's. -/
import Derived.Test.YtpnjgmgmakmgeaaGreatImT
import Derived.Test.YtpnjgmgmakmgeaaGreatCvB
import Derived.Test.YtpnjgmgmakmgeaaGreatSpB
import Derived.Test.YtpnjgmgmakmgeaaGreatSpecS
import Derived.Test.YtpnjgmgmakmgeaaGreatTwo
namespace Go.Proofs.YtpnjgmgmakmgeaaGreat
open Go.RowKit
set_option linter.unusedVariables false
set_option linter.unusedSimpArgs false
theorem perm4 (r1 r2 r3 r4:Rw):([r1]++[r2]++[r3]++[r4]).Perm [r1,r4,r3,r2]:=List.Perm.cons _ (List.reverse_perm [r2,r3,r4]).symm
set_option maxRecDepth 100000 in
set_option maxHeartbeats 4000000 in
theorem treeOf_spec (a:Option Addr) (n c:Nat) (S:List Ent) (w:World) (h:RowE w a n S) (hz:a=none→c=0) :
  Calls Tryz.prog 122 #[.slice a n c] w (NewTre w tTre (treOfM S)):=by
 obtain rfl:=h.1
 have hb0:=(Below.refl w.heap.size w).alloc (Nat.le_refl _) (.cells #[.slice none 0 0,.slice none 0 0,.slice none 0 0] 27)
 have hA:=trAt_new w 27 (.slice none 0 0) (.slice none 0 0) (.slice none 0 0)
 obtain ⟨W1,hW1⟩:∃ W1,W1=w.alloc (.cells #[.slice none 0 0,.slice none 0 0,.slice none 0 0] 27):=⟨_,rfl⟩
 have HW1:=Lib.hid hW1
 have hzz:w.heap.size < W1.heap.size:=by rw [hW1];simp
 rw [← hW1] at hb0 hA
 clear hW1
 have HA:=Lib.hid (fun (W:World) (hb:Below W1.heap.size W1 W)=>(⟨hA.below hb,hb0.trans (hb.mono hb0.size)⟩:TrAt W w.heap.size (.slice none 0 0) (.slice none 0 0) (.slice none 0 0)∧Below w.heap.size w W))
 have HS:=Lib.hid (h.below hb0)
 clear h hb0 hA
 go_enter Tryz.func122,Tryz.ntmps122
 go_upto_region 1 with (fail)
 rw [← HW1.out]
 clear HW1
 go_wp2_with fail
 refine (storeValid_spec a _ c S _ HS.out).mono ?_;rintro e w2 ⟨rfl,hd2⟩
 have hb2:=hd2.below W1.heap.size
 have HB2:=Lib.hid hb2
 clear hd2
 cases hs:storeB S with
 | false =>
  have HE:Hid (treOfM S=noTre):=Lib.hid (by unfold treOfM;rw [hs];rfl)
  obtain ⟨hA2,hB2⟩:=HA.out w2 hb2
  have HF:=Lib.hid (hA2.set3b (.slice none 0 0) (.slice none 0 0) (.slice none 0 0))
  have HBF:=Lib.hid ((set3b_turn w2 w.heap.size (.slice none 0 0) (.slice none 0 0) (.slice none 0 0)).below hB2 (Nat.le_refl _) hB2.size)
  unfold set3b at HF HBF
  obtain ⟨c0,c1,c2,f0,f1,f2⟩:=hA2
  clear hs hb2 hB2
  go_wp2_with fail
  refine bodyPost_ret (results_tre Tryz.results122 _ (by rfl) HF.out) rfl ⟨_,_,_,[],rfl,by rw [HE.out];exact treOwn_no _ _ _ _,HBF.out⟩
 | true =>
  have hsl:=store_len hs
  have hn:S.length≤3000000:=by omega
  have HTO:Hid (treOfM S=⟨S,[firstM S],[-1]⟩):=Lib.hid (by unfold treOfM;rw [if_pos hs])
  have HOK:Hid (blkB (firstM S)=true):=Lib.hid (firstM_ok hs)
  have HS2:=Lib.hid (HS.out.below hb2)
  have hs2:W1.heap.size≤w2.heap.size:=hb2.size
  have HSL:=Lib.hid hsl
  clear hs hb2 hsl
  have ho:=own_lit (w:=w2) (B:=w2.heap.size) 142 2 #[] 0 (Nat.le_refl _) (by unfold maxLen;omega) rfl
  have hb3:=(Below.refl w2.heap.size w2).alloc (Nat.le_refl _) (.cells #[] 142)
  have HR3:=Lib.hid (HS2.out.below hb3)
  have HNL:Hid (a=none→S.length=0∧c=0):=Lib.hid (fun e=>by
   refine ⟨?_,hz e⟩
   rcases Nat.eq_zero_or_pos S.length with e1 | e1
   · exact e1
   · obtain ⟨b,o,he,-⟩:=HS2.out.2.2.1 e1
     rw [e] at he;cases he)
  have HLN:=Lib.hid (flatE_len S)
  go_wp2_with (first | (at_builtin;refine wpList_append_rows rfl _ _ 23 rfl w2.heap.size 142 (.agg #[.int .i64 0,.int .i64 0]) 2 16 Tryz.underlying23 infoEnt rfl (by decide) _ 0 [] (flatE S) (by rfl) ho a S.length c (by rfl) HNL.out HLN.out HR3.out.news (flatE_oneCell S) (by omega) (by decide) (by simp) ?_;intro v5 w5 ho5 hg5;have hb5:=hb3.grown hg5 (by simp) (fun q hq=>(ho.1.lt q hq).1)))
  rw [Nat.zero_add,List.nil_append] at ho5
  obtain ⟨e1,e2,e3,he⟩:=slice_form ho5.1
  rw [he]
  rw [he] at ho5
  have HO5:=Lib.hid (ownR_single (r:=⟨.slice e1 e2 e3,142,2,S.length,flatE S⟩) ho5.1)
  have HB5:=Lib.hid hb5
  have HS5:=Lib.hid (HS2.out.below hb5)
  clear ho ho5 hg5 hb5 hb3 he
  refine (firstBlock_spec a _ c S _ HS5.out).mono ?_;rintro e w6 ⟨v6,rfl,ho6,hwa6,hwb6,hb6⟩
  obtain ⟨f1,f2,f3,rfl⟩:=slice_form ho6
  obtain ⟨x,hx⟩:∃ x,x=firstM S:=⟨_,rfl⟩
  rw [← hx] at ho6 hwa6 hwb6 HTO HOK
  rw [← hx]
  have HO6:=Lib.hid ((HO5.out.below hb6).append (ownR_single (r:=⟨.slice f1 f2 f3,113,4,x.acts.length,flatA x.acts⟩) ho6) (Nat.le_refl _) HB5.out.size hb6.size)
  have hl7:=own_lit (w:=w6) (B:=w6.heap.size) 37 6 #[.int .i64 x.bef,.int .i64 x.hgt,.int .i64 x.view,.slice f1 f2 f3,.int .i64 x.root,.int .i64 x.effs] 1 (Nat.le_refl _) (by unfold maxLen;omega) rfl
  have hb7:=(Below.refl w6.heap.size w6).alloc (Nat.le_refl _) (.cells #[.int .i64 x.bef,.int .i64 x.hgt,.int .i64 x.view,.slice f1 f2 f3,.int .i64 x.root,.int .i64 x.effs] 37)
  obtain ⟨w7,hw7⟩:∃ w7,w7=w6.alloc (.cells #[.int .i64 x.bef,.int .i64 x.hgt,.int .i64 x.view,.slice f1 f2 f3,.int .i64 x.root,.int .i64 x.effs] 37):=⟨_,rfl⟩
  rw [← hw7] at hl7 hb7
  have hl8:=own_lit (w:=w7) (B:=w7.heap.size) 3 1 #[.int .i64 (-1)] 1 (Nat.le_refl _) (by unfold maxLen;omega) rfl
  have hb8:=(Below.refl w7.heap.size w7).alloc (Nat.le_refl _) (.cells #[.int .i64 (-1)] 3)
  obtain ⟨w8,hw8⟩:∃ w8,w8=w7.alloc (.cells #[.int .i64 (-1)] 3):=⟨_,rfl⟩
  rw [← hw8] at hl8 hb8
  have HO7:=Lib.hid ((HO6.out.below hb7).append (ownR_single (r:=⟨.slice (some ⟨w6.heap.size,0,none⟩) 1 1,37,6,1,_⟩) hl7.1) (Nat.le_refl _) (Nat.le_trans HB5.out.size hb6.size) hb7.size)
  have HO8:=Lib.hid ((HO7.out.below hb8).append (ownR_single (r:=⟨.slice (some ⟨w7.heap.size,0,none⟩) 1 1,3,1,1,_⟩) hl8.1) (Nat.le_refl _) (Nat.le_trans HB5.out.size (Nat.le_trans hb6.size hb7.size)) hb8.size)
  have hrs:treRs tTre (.slice e1 e2 e3) (.slice (some ⟨w6.heap.size,0,none⟩) 1 1) (.slice (some ⟨w7.heap.size,0,none⟩) 1 1) ⟨S,[x],[-1]⟩ [.slice f1 f2 f3]=[⟨.slice e1 e2 e3,142,2,S.length,flatE S⟩,⟨.slice (some ⟨w7.heap.size,0,none⟩) 1 1,3,1,1,[.int .i64 (-1)]⟩,⟨.slice (some ⟨w6.heap.size,0,none⟩) 1 1,37,6,1,[.int .i64 x.bef,.int .i64 x.hgt,.int .i64 x.view,.slice f1 f2 f3,.int .i64 x.root,.int .i64 x.effs]⟩,⟨.slice f1 f2 f3,113,4,x.acts.length,flatA x.acts⟩]:=by rfl
  have HO9:Hid (OwnR w8 w2.heap.size w8.heap.size (treRs tTre (.slice e1 e2 e3) (.slice (some ⟨w6.heap.size,0,none⟩) 1 1) (.slice (some ⟨w7.heap.size,0,none⟩) 1 1) ⟨S,[x],[-1]⟩ [.slice f1 f2 f3])):=Lib.hid (by rw [hrs];exact HO8.out.perm (perm4 _ _ _ _))
  clear hrs
  have HB8:=Lib.hid (HB5.out.trans ((hb6.mono HB5.out.size).trans ((hb7.mono (Nat.le_trans HB5.out.size hb6.size)).trans (hb8.mono (Nat.le_trans HB5.out.size (Nat.le_trans hb6.size hb7.size))))))
  have HSZ7:Hid (w7.heap.size=w6.heap.size+1):=Lib.hid (by rw [hw7];simp)
  obtain ⟨hA8,hB8⟩:=HA.out w8 (HB2.out.trans (HB8.out.mono HB2.out.size))
  have ht:=set3b_turn w8 w.heap.size (.slice e1 e2 e3) (.slice (some ⟨w6.heap.size,0,none⟩) 1 1) (.slice (some ⟨w7.heap.size,0,none⟩) 1 1)
  have HF:=Lib.hid (hA8.set3b (.slice e1 e2 e3) (.slice (some ⟨w6.heap.size,0,none⟩) 1 1) (.slice (some ⟨w7.heap.size,0,none⟩) 1 1))
  have HBF:=Lib.hid (ht.below hB8 (Nat.le_refl _) hB8.size)
  have HOF:=Lib.hid ((HO9.out.turn ht (.inr (.inl (by omega)))).top.mono (show w.heap.size≤w2.heap.size by omega) (Nat.le_refl _))
  have HWF:Hid (TreWf ⟨S,[x],[-1]⟩):=Lib.hid ⟨HS2.out.2.2.2,fun y hy=>by simp at hy;subst hy;rfl,⟨fun y hy=>by simp at hy;subst hy;exact ⟨hwb6,hwa6,by have:=(actsB_true (blkB_true HOK.out).2.2.2.2.2).1;omega⟩,by simp⟩,by have:=HSL.out;simp only;omega,by simp⟩
  unfold set3b at HF HBF HOF
  obtain ⟨c0,c1,c2,g0,g1,g2⟩:=hA8
  rw [hw8] at c0 c1 c2 g0 g1 g2 HF HBF HOF
  rw [HSZ7.out] at HF HBF HOF
  rw [hw7] at c0 c1 c2 g0 g1 g2 HF HBF HOF
  clear hb6 hb7 hb8 hl7 hl8 hB8 ht HA HO5 HO6 HO7 HO8 HO9 hw7 hw8 HSZ7 ho6 hwa6 hwb6 hx
  go_wp2_with fail
  refine bodyPost_ret (results_tre Tryz.results122 _ (by rfl) HF.out) rfl ⟨_,_,_,[.slice f1 f2 f3],rfl,?_,HBF.out⟩
  rw [HTO.out]
  exact ⟨rfl,HOF.out,HWF.out⟩
end Go.Proofs.YtpnjgmgmakmgeaaGreat

/- The contract of the program's TriesOf. -/
import Derived.Test.YtaaffpolmecicabGreatTenB
import Derived.Test.YtaaffpolmecicabGreatSpecE
namespace Go.Proofs.YtaaffpolmecicabGreat
open Go.RowKit
set_option linter.unusedVariables false
set_option linter.unusedSimpArgs false
set_option maxRecDepth 100000 in
set_option maxHeartbeats 4000000 in
theorem triesOf_impl (v1 v2 v3 v4:Value) (e:Eng) (w:World) (h:EngRd w v1 v2 v3 v4 e) :
  Calls Tryz.prog 43 #[.agg #[v1,v2,v3,v4]] w (IntB (triesM e) w):=by
 have hb0:=(Below.refl w.heap.size w).alloc (Nat.le_refl _) (.cells #[v1,v2,v3,v4] 57)
 have hg0:=egAt_new w 57 v1 v2 v3 v4
 have HR1:=Lib.hid (h.below hb0)
 obtain ⟨-,-,-,a4,n4,c4,rfl,hr4,-,-⟩:=h
 have HL4:=Lib.hid hr4.1
 have hm4:=hr4.2.1
 unfold maxLen at hm4
 have h4w:=hr4.below hb0
 clear hr4
 obtain ⟨W1,hW1⟩:∃ W1,W1=w.alloc (.cells #[v1,v2,v3,.slice a4 n4 c4] 57):=⟨_,rfl⟩
 have hz1:w.heap.size < W1.heap.size:=by rw [hW1];simp
 have HW1:=Lib.hid hW1
 rw [← hW1] at hb0 hg0 h4w HR1
 clear hW1
 obtain ⟨g0,g1,g2,g3,-,-,-,-⟩:=hg0
 go_enter Tryz.func43,Tryz.ntmps43
 go_upto_region 1 with (fail)
 rw [← HW1.out]
 clear HW1
 go_wp2_with fail
 refine (engineValid_impl _ _ _ _ e _ HR1.out).mono ?_;rintro e1 w2 ⟨rfl,hb⟩
 have g3:=(hb.cell (p:=⟨w.heap.size,3,none⟩) hz1).trans g3
 have h4w:=h4w.below hb
 have HB2:=Lib.hid (hb0.trans (hb.mono hb0.size))
 clear hb hb0 HR1 g0 g1 g2 hz1
 cases x1:engB e with
 | false =>
  have HF:Hid (triesM e = -1):=Lib.hid (by unfold triesM;rw [x1];rfl)
  clear h4w
  go_wp2_with fail
  go_ret
  exact ⟨by rw [HF.out];rfl,HB2.out⟩
 | true =>
  have HX:Hid (triesM e=triesTo e n4):=Lib.hid (by unfold triesM;rw [x1,HL4.out];rfl)
  have HOK:=Lib.hid ((engB_iff e).1 x1)
  have hn10:n4≤10:=by have:=HOK.out.ten;rw [HL4.out] at this;exact this
  have HS2:=Lib.hid h4w
  clear h4w
  go_wp2_with fail
  clear x1
  go_loopw [3,12] (fun s i wr=>∃ k:Nat,k≤n4∧i = .int .i64 k∧s = .int .i64 (triesTo e k)∧Below w2.heap.size w2 wr) (fun _ i _=>n4 - (intOf i).toNat)
  case atStart=>exact ⟨0,Nat.zero_le _,rfl,rfl,Below.refl _ _⟩
  case round =>
   obtain ⟨k,hk,rfl,rfl,hb⟩:=hrel
   by_cases hlt:k < n4
   · obtain ⟨b4,o4,rfl,hsl⟩:=(HS2.out.below hb).at k hlt
     have hbd:=triesTo_bd HOK.out k (by rw [HL4.out];exact hk)
     have hbd2:=slot_tries HOK.out (k:=k) (by rw [HL4.out];exact hlt)
     have HN:Hid (triesTo e (k+1)=triesTo e k+(e.slots.getD k noSlt).tries):=Lib.hid rfl
     obtain ⟨s,hss⟩:∃ s,s=e.slots.getD k noSlt:=⟨_,rfl⟩
     rw [← hss] at hsl HN hbd2
     clear hss
     obtain ⟨s0,s1,⟨v2,s2,av,nv,cv,rfl,-,-,-⟩,s3,⟨v4,s4,aw,nw,cw,rfl,-,-,-⟩,v5,s5,ax,nx,cx,rfl,-,-,-⟩:=hsl
     have hb5:=hb.alloc hb.size (.cells #[.int .i64 s.stage,.int .i64 s.tries,.slice av nv cv,.bool s.res.done,.slice aw nw cw,.slice ax nx cx] 75)
     obtain ⟨tr,hs0⟩:∃ tr,tr=s.tries:=⟨_,rfl⟩
     obtain ⟨sm,hs1⟩:∃ sm,sm=triesTo e k:=⟨_,rfl⟩
     rw [← hs0] at s1 hb5 hbd2 HN
     rw [← hs1] at hbd HN ⊢
     clear hs0 hs1 hb
     have ew:IntKind.i64.wrap (sm+tr)=sm+tr:=IntWalk.i64_in _ (by omega)
     have i1:(0:Int)≤(k:Int):=by omega
     have i2:(k:Int) < (n4:Int):=by omega
     go_wp2_with fail
     go_roundw
     case rel=>exact ⟨k+1,by omega,by go_num,by rw [HN.out],hb5⟩
     case measure=>simp [intOf];omega
   · obtain rfl:k=n4:=by omega
     have HB3:=Lib.hid (HB2.out.trans (hb.mono HB2.out.size))
     clear hb
     go_wp2_with fail
     go_ret
     exact ⟨by rw [HX.out];rfl,HB3.out⟩
end Go.Proofs.YtaaffpolmecicabGreat
